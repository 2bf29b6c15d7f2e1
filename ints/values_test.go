package ints

import (
	"math"
	"math/big"
	"slices"
	"strings"
	"testing"

	"hornbeam/api"
)

const (
	least    = math.MinInt64
	greatest = math.MaxInt64
)

var (
	unaryNames  = []string{"-", "+", "abs", "sign", "\\"}
	binaryNames = []string{"+", "-", "*", "//", "rem", "div", "mod", "min", "max", ">>", "<<", "/\\", "\\/", "xor", "^", "gcd"}
	otherNames  = []string{"", " ", "foo", "ABS", "Abs", "abs ", " abs", "signum", "neg", "/", "**", "//2", "\\\\", "/\\/", "MOD", "modulo", "mo", "and", "or", ">>>", "<", "lcm", "\x00", "+\x00", "\xff", strings.Repeat("+", 20000)}
)

// numbers are small integers and the surroundings of the powers of two, of both signs, in ascending order.
func numbers() []int64 {
	l := []int64{6, 7, 9, 10, 12, 18, 27, 60, 61, 62, 63, 64, 65, 66, 100, 127, 255, 1000003, 3037000499, 3037000500, 4052555153018976267}
	for _, shift := range []uint{0, 1, 2, 3, 8, 16, 30, 31, 32, 33, 47, 61, 62, 63} {
		power := int64(1) << shift
		l = append(l, power-1, power, power+1)
	}
	for _, n := range slices.Clone(l) {
		l = append(l, -n)
	}
	slices.Sort(l)
	return slices.Compact(l)
}

// inRange turns a mathematical value into a result.
func inRange(v *big.Int) (int64, api.Errno) {
	if !v.IsInt64() {
		return 0, api.ErrOverflow
	}
	return v.Int64(), api.OK
}

func unaryByTheChapter(name string, n int64) *big.Int {
	a := big.NewInt(n)
	switch name {
	case "-":
		return a.Neg(a)
	case "abs":
		return a.Abs(a)
	case "sign":
		return big.NewInt(int64(a.Sign()))
	case "\\":
		return a.Sub(a.Neg(a), big.NewInt(1))
	}
	return a
}

// floor divides and rounds down; of math/big's division this is so only for divisors above 0.
func floor(a, b *big.Int) *big.Int {
	if b.Sign() < 0 {
		a, b = new(big.Int).Neg(a), new(big.Int).Neg(b)
	}
	return new(big.Int).Div(a, b)
}

func errorByTheChapter(name string, a, b int64) api.Errno {
	switch name {
	case "//", "rem", "div", "mod":
		if b == 0 {
			return api.ErrZero
		}
	case ">>", "<<":
		if b < 0 || b > 63 {
			return api.ErrUndef
		}
	case "^":
		if b < 0 && a == 0 {
			return api.ErrZero
		}
		if b < 0 && a != 1 && a != -1 {
			return api.ErrUndef
		}
	}
	return api.OK
}

// powerByTheChapter cuts an exponent to a lesser one of the same parity, with which the power is the same or still overflows.
func powerByTheChapter(a, b int64) *big.Int {
	exponent := new(big.Int).Abs(big.NewInt(b))
	if exponent.Cmp(big.NewInt(1000)) > 0 {
		exponent.And(exponent, big.NewInt(1))
		exponent.Add(exponent, big.NewInt(1000))
	}
	return exponent.Exp(big.NewInt(a), exponent, nil)
}

func binaryByTheChapter(name string, m, n int64) *big.Int {
	a, b, v := big.NewInt(m), big.NewInt(n), new(big.Int)
	switch name {
	case "+":
		return v.Add(a, b)
	case "-":
		return v.Sub(a, b)
	case "*":
		return v.Mul(a, b)
	case "//":
		return v.Quo(a, b)
	case "rem":
		return v.Sub(a, v.Mul(b, v.Quo(a, b)))
	case "div":
		return floor(a, b)
	case "mod":
		return v.Sub(a, v.Mul(b, floor(a, b)))
	case "min":
		return big.NewInt(slices.Min([]int64{m, n}))
	case "max":
		return big.NewInt(slices.Max([]int64{m, n}))
	case ">>":
		return floor(a, v.Exp(big.NewInt(2), b, nil))
	case "<<":
		return v.Mul(a, v.Exp(big.NewInt(2), b, nil))
	case "/\\":
		return v.And(a, b)
	case "\\/":
		return v.Or(a, b)
	case "xor":
		return v.Xor(a, b)
	case "^":
		return powerByTheChapter(m, n)
	}
	return v.GCD(nil, nil, a.Abs(a), b.Abs(b))
}

// P2.1
func TestUnaryIsExact(t *testing.T) {
	for _, name := range unaryNames {
		for _, a := range numbers() {
			want, why := inRange(unaryByTheChapter(name, a))
			if got, e := Unary(name, a); got != want || e != why {
				t.Errorf("Unary(%q, %d) = %d, %d, want %d, %d", name, a, got, e, want, why)
			}
		}
	}
}

// P2.1
func TestUnaryExamples(t *testing.T) {
	for _, x := range []struct {
		name    string
		a, want int64
		e       api.Errno
	}{
		{"-", 5, -5, api.OK}, {"-", -5, 5, api.OK}, {"-", 0, 0, api.OK}, {"-", greatest, -greatest, api.OK}, {"-", least, 0, api.ErrOverflow}, {"-", least + 1, greatest, api.OK},
		{"+", 5, 5, api.OK}, {"+", least, least, api.OK}, {"+", greatest, greatest, api.OK},
		{"abs", 5, 5, api.OK}, {"abs", -5, 5, api.OK}, {"abs", 0, 0, api.OK}, {"abs", least, 0, api.ErrOverflow}, {"abs", least + 1, greatest, api.OK}, {"abs", greatest, greatest, api.OK},
		{"sign", 7, 1, api.OK}, {"sign", 0, 0, api.OK}, {"sign", -7, -1, api.OK}, {"sign", least, -1, api.OK}, {"sign", greatest, 1, api.OK},
		{"\\", 0, -1, api.OK}, {"\\", -1, 0, api.OK}, {"\\", least, greatest, api.OK}, {"\\", greatest, least, api.OK}, {"\\", 5, -6, api.OK},
	} {
		if got, e := Unary(x.name, x.a); got != x.want || e != x.e {
			t.Errorf("Unary(%q, %d) = %d, %d, want %d, %d", x.name, x.a, got, e, x.want, x.e)
		}
	}
}

// P2.1, P2.2: a name that is not in the table is ErrNone, whatever the numbers are.
func TestNamesThatAreNotInTheTables(t *testing.T) {
	for _, name := range slices.Concat(otherNames, binaryNames) {
		if slices.Contains(unaryNames, name) {
			continue
		}
		for _, a := range []int64{0, 1, -1, least} {
			if got, e := Unary(name, a); got != 0 || e != api.ErrNone {
				t.Errorf("Unary(%q, %d) = %d, %d", name, a, got, e)
			}
		}
	}
	for _, name := range slices.Concat(otherNames, unaryNames) {
		if slices.Contains(binaryNames, name) {
			continue
		}
		for _, b := range []int64{0, 1, -1, 64, least} {
			if got, e := Binary(name, least, b); got != 0 || e != api.ErrNone {
				t.Errorf("Binary(%q, %d, %d) = %d, %d", name, int64(least), b, got, e)
			}
		}
	}
}

// P2.2: the error of the table comes before the overflow, and that before the value.
func TestBinaryIsExact(t *testing.T) {
	l := numbers()
	for _, name := range binaryNames {
		for _, a := range l {
			for _, b := range l {
				want, why := int64(0), errorByTheChapter(name, a, b)
				if why == api.OK {
					want, why = inRange(binaryByTheChapter(name, a, b))
				}
				if got, e := Binary(name, a, b); got != want || e != why {
					t.Errorf("Binary(%q, %d, %d) = %d, %d, want %d, %d", name, a, b, got, e, want, why)
				}
			}
		}
	}
}

// P2.2
func TestBinaryOfSmallNumbersIsExact(t *testing.T) {
	for _, name := range binaryNames {
		for a := int64(-20); a <= 20; a++ {
			for b := int64(-20); b <= 70; b++ {
				want, why := int64(0), errorByTheChapter(name, a, b)
				if why == api.OK {
					want, why = inRange(binaryByTheChapter(name, a, b))
				}
				if got, e := Binary(name, a, b); got != want || e != why {
					t.Errorf("Binary(%q, %d, %d) = %d, %d, want %d, %d", name, a, b, got, e, want, why)
				}
			}
		}
	}
}

type binaryCase struct {
	name       string
	a, b, want int64
	e          api.Errno
}

func checkBinary(t *testing.T, cases []binaryCase) {
	t.Helper()
	for _, x := range cases {
		if got, e := Binary(x.name, x.a, x.b); got != x.want || e != x.e {
			t.Errorf("Binary(%q, %d, %d) = %d, %d, want %d, %d", x.name, x.a, x.b, got, e, x.want, x.e)
		}
	}
}

// P2.2
func TestBinaryExamples(t *testing.T) {
	checkBinary(t, []binaryCase{
		{"+", 2, 3, 5, api.OK}, {"+", greatest, 1, 0, api.ErrOverflow}, {"+", least, -1, 0, api.ErrOverflow}, {"+", least, least, 0, api.ErrOverflow}, {"+", least, greatest, -1, api.OK},
		{"-", 2, 3, -1, api.OK}, {"-", least, 1, 0, api.ErrOverflow}, {"-", 0, least, 0, api.ErrOverflow}, {"-", -1, least, greatest, api.OK}, {"-", least, least, 0, api.OK},
		{"*", -4, 3, -12, api.OK}, {"*", least, -1, 0, api.ErrOverflow}, {"*", -1, least, 0, api.ErrOverflow}, {"*", least, 1, least, api.OK}, {"*", -1 << 32, 1 << 31, least, api.OK}, {"*", 1 << 32, 1 << 31, 0, api.ErrOverflow}, {"*", 1 << 32, 1 << 32, 0, api.ErrOverflow},
		{"min", 2, -2, -2, api.OK}, {"min", least, greatest, least, api.OK}, {"max", 2, -2, 2, api.OK}, {"max", least, greatest, greatest, api.OK},
		{"/\\", 12, 10, 8, api.OK}, {"/\\", -2, 7, 6, api.OK}, {"\\/", 12, 10, 14, api.OK}, {"\\/", -2, 7, -1, api.OK}, {"xor", 12, 10, 6, api.OK}, {"xor", -2, 7, -7, api.OK},
		{"gcd", -12, 18, 6, api.OK}, {"gcd", 12, -18, 6, api.OK}, {"gcd", 0, 0, 0, api.OK}, {"gcd", 0, -5, 5, api.OK}, {"gcd", 7, 0, 7, api.OK}, {"gcd", least, 0, 0, api.ErrOverflow}, {"gcd", 0, least, 0, api.ErrOverflow}, {"gcd", least, least, 0, api.ErrOverflow}, {"gcd", least, 6, 2, api.OK},
	})
}

// P2.2
func TestDivisionExamples(t *testing.T) {
	checkBinary(t, []binaryCase{
		{"//", -7, 2, -3, api.OK}, {"rem", -7, 2, -1, api.OK}, {"div", -7, 2, -4, api.OK}, {"mod", -7, 2, 1, api.OK},
		{"//", 7, -2, -3, api.OK}, {"rem", 7, -2, 1, api.OK}, {"div", 7, -2, -4, api.OK}, {"mod", 7, -2, -1, api.OK},
		{"//", -7, -2, 3, api.OK}, {"rem", -7, -2, -1, api.OK}, {"div", -7, -2, 3, api.OK}, {"mod", -7, -2, -1, api.OK},
		{"div", -6, 2, -3, api.OK}, {"mod", -6, 2, 0, api.OK}, {"div", 1, least, -1, api.OK}, {"mod", 1, least, least + 1, api.OK}, {"div", least, 2, -1 << 62, api.OK},
		{"//", least, -1, 0, api.ErrOverflow}, {"div", least, -1, 0, api.ErrOverflow}, {"rem", least, -1, 0, api.OK}, {"mod", least, -1, 0, api.OK}, {"//", least, 1, least, api.OK},
		{"//", 1, 0, 0, api.ErrZero}, {"rem", 1, 0, 0, api.ErrZero}, {"div", 1, 0, 0, api.ErrZero}, {"mod", 1, 0, 0, api.ErrZero}, {"//", 0, 0, 0, api.ErrZero}, {"mod", least, 0, 0, api.ErrZero},
	})
}

// P2.2
func TestShiftAndPowerExamples(t *testing.T) {
	checkBinary(t, []binaryCase{
		{">>", -5, 1, -3, api.OK}, {">>", -1, 63, -1, api.OK}, {">>", greatest, 63, 0, api.OK}, {">>", least, 63, -1, api.OK}, {">>", 5, 0, 5, api.OK}, {">>", 0, 64, 0, api.ErrUndef}, {">>", 0, -1, 0, api.ErrUndef}, {">>", 1, least, 0, api.ErrUndef},
		{"<<", 1, 62, 1 << 62, api.OK}, {"<<", 1, 63, 0, api.ErrOverflow}, {"<<", -1, 63, least, api.OK}, {"<<", 0, 63, 0, api.OK}, {"<<", 2, 63, 0, api.ErrOverflow}, {"<<", -2, 63, 0, api.ErrOverflow}, {"<<", 3, 62, 0, api.ErrOverflow},
		{"<<", 1, 64, 0, api.ErrUndef}, {"<<", 0, -1, 0, api.ErrUndef}, {"<<", greatest, 64, 0, api.ErrUndef}, {"<<", 1, 1 << 32, 0, api.ErrUndef},
		{"^", 2, 10, 1024, api.OK}, {"^", -2, 63, least, api.OK}, {"^", 2, 63, 0, api.ErrOverflow}, {"^", 2, 62, 1 << 62, api.OK}, {"^", -2, 64, 0, api.ErrOverflow}, {"^", -2, 65, 0, api.ErrOverflow}, {"^", 2, 64, 0, api.ErrOverflow},
		{"^", -8, 21, least, api.OK}, {"^", 8, 21, 0, api.ErrOverflow}, {"^", 3, 39, 4052555153018976267, api.OK}, {"^", 3, 40, 0, api.ErrOverflow}, {"^", 10, 18, 1000000000000000000, api.OK}, {"^", 10, 19, 0, api.ErrOverflow},
		{"^", least, 1, least, api.OK}, {"^", least, 0, 1, api.OK}, {"^", least, 2, 0, api.ErrOverflow}, {"^", 0, 0, 1, api.OK}, {"^", 0, greatest, 0, api.OK}, {"^", 1, greatest, 1, api.OK}, {"^", -1, greatest, -1, api.OK}, {"^", -1, greatest - 1, 1, api.OK}, {"^", 3, greatest, 0, api.ErrOverflow},
		{"^", -1, -3, -1, api.OK}, {"^", -1, -4, 1, api.OK}, {"^", -1, least, 1, api.OK}, {"^", -1, least + 1, -1, api.OK}, {"^", 1, -1, 1, api.OK}, {"^", 1, least, 1, api.OK}, {"^", 0, -1, 0, api.ErrZero}, {"^", 0, least, 0, api.ErrZero}, {"^", 2, -1, 0, api.ErrUndef}, {"^", -2, -1, 0, api.ErrUndef}, {"^", least, -1, 0, api.ErrUndef},
	})
}

// P2.3
func TestKnown(t *testing.T) {
	for _, name := range slices.Concat(unaryNames, binaryNames, otherNames) {
		for _, arity := range []int{math.MinInt, -2, -1, 0, 1, 2, 3, 8, 257, 258, 1<<32 + 1, 1<<32 + 2, math.MaxInt} {
			want := arity == 1 && slices.Contains(unaryNames, name) || arity == 2 && slices.Contains(binaryNames, name)
			if got := Known(name, arity); got != want {
				t.Errorf("Known(%q, %d) = %v", name, arity, got)
			}
		}
	}
}
