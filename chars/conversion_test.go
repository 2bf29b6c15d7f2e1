package chars

import (
	"math"
	"slices"
	"testing"

	"hornbeam/api"
)

func validTables() [][]api.Pair {
	var full []api.Pair
	for c := range 256 {
		full = append(full, api.Pair{From: c, To: 255 - c})
	}
	return [][]api.Pair{
		nil,
		{},
		{{From: 97, To: 98}},
		{{From: 0, To: 255}},
		{{From: 255, To: 0}},
		{{From: 0, To: 255}, {From: 255, To: 0}},
		{{From: 10, To: 20}, {From: 20, To: 10}, {From: 21, To: 10}},
		{{From: 1, To: 0}, {From: 3, To: 1}, {From: 5, To: 1}, {From: 200, To: 3}, {From: 254, To: 255}},
		full,
	}
}

func invalidTables() [][]api.Pair {
	good := api.Pair{From: 5, To: 6}
	return [][]api.Pair{
		{{From: 0, To: 0}},
		{{From: 2, To: 2}},
		{{From: -1, To: 2}},
		{{From: 2, To: -1}},
		{{From: 256, To: 2}},
		{{From: 2, To: 256}},
		{{From: math.MinInt, To: 2}},
		{{From: 2, To: math.MaxInt}},
		{{From: 1<<32 + 3, To: 2}},
		{good, good},
		{good, {From: 5, To: 7}},
		{good, {From: 4, To: 7}},
		{good, {From: 7, To: 7}},
		{good, {From: 7, To: 256}},
		{good, {From: 256, To: 7}},
		{{From: -1, To: 7}, good},
		{{From: 1, To: 7}, {From: 3, To: 7}, {From: 2, To: 7}, {From: 4, To: 7}},
		{{From: 1, To: 7}, {From: 3, To: 7}, {From: 4, To: 7}, {From: 2, To: 7}},
	}
}

// mapped is the meaning of a valid table, found without a search.
func mapped(l []api.Pair, c int) int {
	for _, p := range l {
		if p.From == c {
			return p.To
		}
	}
	return c
}

// meaning is a second way to set characters: the table of the map in which from has been replaced.
func meaning(l []api.Pair, from, to int) []api.Pair {
	var table []api.Pair
	for c := range 256 {
		image := mapped(l, c)
		if c == from {
			image = to
		}
		if image != c {
			table = append(table, api.Pair{From: c, To: image})
		}
	}
	return table
}

// P1.4
func TestValid(t *testing.T) {
	for _, l := range validTables() {
		if !Valid(l) {
			t.Errorf("Valid(%v) = false", l)
		}
	}
	for _, l := range invalidTables() {
		if Valid(l) {
			t.Errorf("Valid(%v) = true", l)
		}
	}
}

// P1.4
func TestConvert(t *testing.T) {
	for _, l := range validTables() {
		for c := range 256 {
			if got := Convert(l, c); got != mapped(l, c) {
				t.Errorf("Convert(%v, %d) = %d, want %d", l, c, got, mapped(l, c))
			}
		}
		for _, c := range strangers() {
			if got := Convert(l, c); got != 0 {
				t.Errorf("Convert(%v, %d) = %d", l, c, got)
			}
		}
	}
}

// P1.4
func TestConvertWithInvalidTables(t *testing.T) {
	for _, l := range invalidTables() {
		for _, c := range append(strangers(), 0, 1, 2, 5, 6, 100, 255) {
			if got := Convert(l, c); got != 0 {
				t.Errorf("Convert(%v, %d) = %d", l, c, got)
			}
		}
	}
}

// P1.4, P1.5
func TestSet(t *testing.T) {
	for _, l := range validTables() {
		for from := range 256 {
			for _, to := range []int{0, 1, 97, 98, 254, 255, from, 255 - from, mapped(l, from)} {
				got, e := Set(l, from, to)
				if e != api.OK || !slices.Equal(got, meaning(l, from, to)) {
					t.Errorf("Set(%v, %d, %d) = %v, %v", l, from, to, got, e)
				}
			}
		}
	}
}

// P1.4
func TestSetExamples(t *testing.T) {
	table, e := Set(nil, 97, 98)
	if e != api.OK || !slices.Equal(table, []api.Pair{{From: 97, To: 98}}) || Convert(table, 97) != 98 || Convert(table, 98) != 98 {
		t.Errorf("97 to 98: %v, %v", table, e)
	}
	table, e = Set(table, 97, 97)
	if e != api.OK || len(table) != 0 {
		t.Errorf("97 to 97: %v, %v", table, e)
	}
	table, e = Set(nil, 256, 1)
	if e != api.ErrArg || len(table) != 0 {
		t.Errorf("256 to 1: %v, %v", table, e)
	}
}

// P1.4
func TestSetWithInvalidArguments(t *testing.T) {
	for _, l := range invalidTables() {
		if table, e := Set(l, 5, 6); e != api.ErrArg || len(table) != 0 {
			t.Errorf("Set(%v, 5, 6) = %v, %v", l, table, e)
		}
	}
	for _, l := range validTables() {
		for _, c := range strangers() {
			for _, x := range [][2]int{{c, 1}, {1, c}, {c, c}} {
				if table, e := Set(l, x[0], x[1]); e != api.ErrArg || len(table) != 0 {
					t.Errorf("Set(%v, %d, %d) = %v, %v", l, x[0], x[1], table, e)
				}
			}
		}
	}
}

// P1.5
func TestConvertAfterSet(t *testing.T) {
	for _, l := range validTables() {
		for from := range 256 {
			table, _ := Set(l, from, 77)
			for c := range 256 {
				want := Convert(l, c)
				if c == from {
					want = 77
				}
				if got := Convert(table, c); got != want {
					t.Errorf("Convert(Set(%v, %d, 77), %d) = %d, want %d", l, from, c, got, want)
				}
			}
		}
	}
}

// P1.5
func TestSettingBackRestores(t *testing.T) {
	for _, l := range validTables() {
		for from := range 256 {
			for _, to := range []int{0, 77, 255, from} {
				table, _ := Set(l, from, to)
				back, e := Set(table, from, Convert(l, from))
				if e != api.OK || !slices.Equal(back, l) {
					t.Errorf("%v with %d to %d and back: %v, %v", l, from, to, back, e)
				}
			}
		}
	}
}

// P1.5
func TestOrderOfSettingDoesNotMatter(t *testing.T) {
	some := []int{0, 1, 3, 4, 10, 20, 97, 200, 254, 255}
	for _, l := range validTables() {
		for _, a := range some {
			for _, b := range some {
				if a == b {
					continue
				}
				for _, to := range [][2]int{{b, a}, {7, 7}, {a, 9}, {9, b}, {a, b}} {
					first, _ := Set(l, a, to[0])
					first, _ = Set(first, b, to[1])
					second, _ := Set(l, b, to[1])
					second, _ = Set(second, a, to[0])
					if !slices.Equal(first, second) || !Valid(first) {
						t.Errorf("%v with %d to %d and %d to %d: %v and %v", l, a, to[0], b, to[1], first, second)
					}
				}
			}
		}
	}
}

// P1.4 with R4: neither the argument nor its spare capacity is modified, and a result shares no memory with it.
func TestSetLeavesItsArgument(t *testing.T) {
	for _, x := range [][2]int{{10, 12}, {10, 10}, {10, 11}, {5, 6}, {5, 5}, {40, 41}, {20, 20}, {30, 30}} {
		before := []api.Pair{{From: 10, To: 11}, {From: 20, To: 21}, {From: 30, To: 31}, {From: 90, To: 91}, {From: 92, To: 93}}
		backing := slices.Clone(before)
		table, e := Set(backing[:3], x[0], x[1])
		if e != api.OK || !slices.Equal(backing, before) {
			t.Errorf("Set(.., %d, %d) changed its argument to %v, %v", x[0], x[1], backing, e)
		}
		for i := range table {
			table[i] = api.Pair{}
		}
		_ = append(table, api.Pair{From: 1, To: 2})
		if !slices.Equal(backing, before) {
			t.Errorf("the result of Set(.., %d, %d) shares memory with the argument", x[0], x[1])
		}
		again, _ := Set(backing[:3], x[0], x[1])
		if !slices.Equal(again, meaning(before[:3], x[0], x[1])) {
			t.Errorf("Set(.., %d, %d) returns %v the second time", x[0], x[1], again)
		}
	}
}
