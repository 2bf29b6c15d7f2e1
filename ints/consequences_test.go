package ints

import (
	"slices"
	"testing"

	"hornbeam/api"
)

// value computes a binary that has a value.
func value(t *testing.T, name string, a, b int64) int64 {
	t.Helper()
	v, e := Binary(name, a, b)
	if e != api.OK {
		t.Fatalf("Binary(%q, %d, %d) is %d", name, a, b, e)
	}
	return v
}

// P2.6: only the quotients of the least integer and -1 overflow.
func TestQuotientsAndRemainders(t *testing.T) {
	for _, a := range numbers() {
		for _, b := range numbers() {
			if b == 0 || a == least && b == -1 {
				continue
			}
			for _, names := range [][2]string{{"//", "rem"}, {"div", "mod"}} {
				remainder := value(t, names[1], a, b)
				if size(remainder) >= size(b) {
					t.Errorf("%d %s %d is %d", a, names[1], b, remainder)
				}
				// The product may lie beyond the least integer by rounding down; the sum is exact modulo 2^64.
				if sum := value(t, names[0], a, b)*b + remainder; sum != a {
					t.Errorf("%s and %s of %d and %d lead to %d", names[0], names[1], a, b, sum)
				}
			}
			if r := value(t, "rem", a, b); r != 0 && (r < 0) != (a < 0) {
				t.Errorf("%d rem %d is %d", a, b, r)
			}
			if r := value(t, "mod", a, b); r != 0 && (r < 0) != (b < 0) {
				t.Errorf("%d mod %d is %d", a, b, r)
			}
		}
	}
}

// P2.8
func TestShiftingLeftAndBack(t *testing.T) {
	restored := 0
	for _, a := range numbers() {
		for b := range int64(64) {
			shifted, e := Binary("<<", a, b)
			if e == api.ErrOverflow {
				continue
			}
			if back := value(t, ">>", shifted, b); e != api.OK || back != a {
				t.Errorf("%d << %d is %d, %d, and back it is %d", a, b, shifted, e, back)
			}
			restored++
		}
	}
	if restored < 1000 {
		t.Errorf("only %d shifts did not overflow", restored)
	}
}

// P2.8: Go's addition is one modulo 2^64.
func TestAndPlusOrIsTheSum(t *testing.T) {
	for _, a := range numbers() {
		for _, b := range numbers() {
			if and, or := value(t, "/\\", a, b), value(t, "\\/", a, b); and+or != a+b {
				t.Errorf("and, or of %d, %d: %d, %d", a, b, and, or)
			}
		}
	}
}

// P2.9
func TestPowersOfSums(t *testing.T) {
	for _, a := range slices.Concat([]int64{least, least + 1, -3037000500, -1 << 31, 1 << 31, 3037000499, greatest}, []int64{-100, -15, -10, -7, -3, -2, -1, 0, 1, 2, 3, 5, 6, 10, 11, 100, 1291}) {
		for m := range int64(70) {
			for n := range int64(70) {
				whole, e := Binary("^", a, m+n)
				if e == api.ErrOverflow {
					continue
				}
				if product := value(t, "*", value(t, "^", a, m), value(t, "^", a, n)); e != api.OK || product != whole {
					t.Errorf("%d to %d + %d is %d, %d, and the product is %d", a, m, n, whole, e, product)
				}
			}
		}
	}
}
