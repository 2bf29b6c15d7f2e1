package ops

import (
	"slices"
	"testing"

	"hornbeam/api"
)

// change is a second way to set an operator of a valid table, in the words of the chapter.
func change(l []api.Op, prec, typ int, name string) ([]api.Op, api.Errno) {
	isInfix, isPostfix := class(typ) == 2, class(typ) == 3
	_, hasInfix := having(l, 2, name)
	_, hasPostfix := having(l, 3, name)
	switch {
	case prec < 0 || prec > 1200 || class(typ) == 0 || len(name) > 100:
		return nil, api.ErrArg
	case name == "," || name == "[]" || name == "{}":
		return nil, api.ErrState
	case name == "|" && !(isInfix && (prec == 0 || prec >= 1001)):
		return nil, api.ErrState
	case prec > 0 && (isInfix && hasPostfix || isPostfix && hasInfix):
		return nil, api.ErrState
	}
	t := without(l, typ, name)
	if prec > 0 {
		t = append(t, op(prec, typ, name))
	}
	if len(t) > 100 {
		return nil, api.ErrFull
	}
	return ordered(t), api.OK
}

// P7.2, P7.4
func TestSet(t *testing.T) {
	errors := map[api.Errno]int{}
	for _, l := range validTables() {
		names := samples()
		for i := 0; i < len(l); i += 9 {
			names = append(names, l[i].Name, l[i].Name+"0")
		}
		for _, name := range names {
			for _, typ := range allTypes() {
				for _, prec := range priorities() {
					want, why := change(l, prec, typ, name)
					got, e := Set(l, prec, typ, name)
					if e != why || !slices.Equal(got, want) || e != api.OK && len(got) != 0 {
						t.Errorf("Set(%v, %d, %d, %q) = %v, %d, not %v, %d", l, prec, typ, name, got, e, want, why)
					}
					errors[e]++
				}
			}
		}
	}
	for _, e := range []api.Errno{api.OK, api.ErrState, api.ErrFull} {
		if errors[e] == 0 {
			t.Errorf("no call has returned %d", e)
		}
	}
}

// P7.2: a faulty argument is found before everything else, whatever the others are.
func TestSetWithInvalidArguments(t *testing.T) {
	check := func(l []api.Op, prec, typ int, name string) {
		t.Helper()
		if got, e := Set(l, prec, typ, name); e != api.ErrArg || len(got) != 0 {
			t.Errorf("Set(%v, %d, %d, %.200q) = %v, %d", l, prec, typ, name, got, e)
		}
	}
	names := []string{"a", "b", "n100", "zz", ",", "|", "[]", "{}"}
	for _, l := range validTables() {
		for _, name := range names {
			for _, prec := range notPriorities() {
				check(l, prec, api.FY, name)
				check(l, prec, api.YF, name)
				check(l, prec, 0, name)
			}
			for _, typ := range notTypes() {
				check(l, 0, typ, name)
				check(l, 200, typ, name)
				check(l, 1201, typ, name)
			}
		}
		for _, name := range tooLong() {
			check(l, 0, api.FY, name)
			check(l, 1200, api.XFX, name)
		}
	}
	for _, l := range invalidTables() {
		for _, name := range names {
			check(l, 0, api.YFX, name)
			check(l, 200, api.FY, name)
			check(l, 1000, api.XFY, name)
		}
	}
}

// P7.2: several errors apply to each of these calls.
func TestSetReturnsTheFirstError(t *testing.T) {
	rivals := append(full()[:api.MaxOps-2], op(1, api.FX, "x"), op(1, api.XFX, "y"))
	for _, x := range []struct {
		l         []api.Op
		prec, typ int
		name      string
		want      api.Errno
	}{
		{full(), 1201, api.FY, ",", api.ErrArg},
		{full(), 200, 8, "[]", api.ErrArg},
		{full(), 200, api.FY, tooLong()[0], api.ErrArg},
		{full(), 200, api.FY, "[]", api.ErrState},
		{full(), 200, api.FY, "{}", api.ErrState},
		{full(), 1000, api.XFY, ",", api.ErrState},
		{full(), 1000, api.XFY, "|", api.ErrState},
		{full(), 1200, api.XF, "|", api.ErrState},
		{full(), 1200, api.XFY, "|", api.ErrFull},
		{full(), 0, api.XFY, "|", api.OK},
		{rivals, 1, api.XF, "y", api.ErrState},
		{rivals, 0, api.XF, "y", api.OK},
		{rivals, 1, api.XF, "x", api.ErrFull},
		{rivals, 1, api.FY, "x", api.OK},
	} {
		if got, e := Set(x.l, x.prec, x.typ, x.name); e != x.want || e != api.OK && len(got) != 0 {
			t.Errorf("Set(.., %d, %d, %.200q) = %v, %d, not %d", x.prec, x.typ, x.name, got, e, x.want)
		}
	}
}

// P7.2
func TestSetExamples(t *testing.T) {
	l, e := Set(Default(), 700, api.XFX, "in")
	if got, ok := Infix(l, "in"); e != api.OK || len(l) != 42 || !ok || got != op(700, api.XFX, "in") {
		t.Errorf("in: %v, %d", l, e)
	}
	l, e = Set(Default(), 0, api.YFX, "+")
	_, hasInfix := Infix(l, "+")
	if got, ok := Prefix(l, "+"); e != api.OK || hasInfix || !ok || got != op(200, api.FY, "+") {
		t.Errorf("+: %v, %d", l, e)
	}
	for _, x := range []struct {
		prec, typ int
		name      string
		want      api.Errno
	}{{200, api.XF, "is", api.ErrState}, {900, api.XFY, "|", api.ErrState}, {200, api.FY, "[]", api.ErrState}, {1201, api.FY, "a", api.ErrArg}} {
		if l, e := Set(Default(), x.prec, x.typ, x.name); e != x.want || len(l) != 0 {
			t.Errorf("Set(Default(), %d, %d, %q) = %v, %d", x.prec, x.typ, x.name, l, e)
		}
	}
}

// settings calls visit for calls of Set that succeed.
func settings(visit func(l []api.Op, prec, typ int, name string, set []api.Op)) {
	for _, l := range validTables() {
		for _, name := range append(samples(), "n100", "n150", "n199") {
			for _, typ := range allTypes() {
				for _, prec := range []int{0, 1, 200, 1200} {
					if set, e := Set(l, prec, typ, name); e == api.OK {
						visit(l, prec, typ, name, set)
					}
				}
			}
		}
	}
}

// P7.4
func TestSetChangesOneOperator(t *testing.T) {
	settings(func(l []api.Op, prec, typ int, name string, set []api.Op) {
		got, ok := having(set, class(typ), name)
		if !Valid(set) || ok != (prec > 0) || ok && got != op(prec, typ, name) || !slices.Equal(without(set, typ, name), without(l, typ, name)) {
			t.Errorf("Set(%v, %d, %d, %q) = %v", l, prec, typ, name, set)
		}
	})
}

// P7.5
func TestSettingAgain(t *testing.T) {
	settings(func(l []api.Op, prec, typ int, name string, set []api.Op) {
		if again, e := Set(set, prec, typ, name); e != api.OK || !slices.Equal(again, set) {
			t.Errorf("Set(%v, %d, %d, %q) = %v, %d", set, prec, typ, name, again, e)
		}
	})
}

// P7.5
func TestRemovingRestores(t *testing.T) {
	settings(func(l []api.Op, prec, typ int, name string, set []api.Op) {
		if _, had := having(l, class(typ), name); had {
			return
		}
		for _, other := range allTypes() {
			if class(other) != class(typ) {
				continue
			}
			if back, e := Set(set, 0, other, name); e != api.OK || !slices.Equal(back, l) {
				t.Errorf("Set(%v, 0, %d, %q) = %v, %d", set, other, name, back, e)
			}
		}
	})
}

// P7.2 with R4: neither the argument nor its spare capacity is modified, and a result shares no memory with it.
func TestSetLeavesItsArgument(t *testing.T) {
	before := []api.Op{op(1, api.FX, "b"), op(2, api.XFX, "b"), op(3, api.FX, "d"), op(4, api.FX, "y"), op(5, api.FX, "z")}
	for _, name := range []string{"a", "b", "c", "d", "e", "y", "[]"} {
		for _, typ := range allTypes() {
			for _, prec := range []int{0, 1, 2, 3, 300, 1201} {
				backing := slices.Clone(before)
				got, e := Set(backing[:3], prec, typ, name)
				if !slices.Equal(backing, before) {
					t.Errorf("Set(.., %d, %d, %q) has changed its argument to %v, %d", prec, typ, name, backing, e)
				}
				for i := range got {
					got[i] = api.Op{}
				}
				_ = append(got, api.Op{})
				if !slices.Equal(backing, before) {
					t.Errorf("the result of Set(.., %d, %d, %q) shares memory with the argument", prec, typ, name)
				}
			}
		}
	}
}
