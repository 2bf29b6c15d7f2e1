package ops

import (
	"math"
	"slices"
	"strings"
	"testing"

	"hornbeam/api"
)

// chapter is the table of the predefined operators as the chapter shows it.
func chapter() []api.Op {
	var l []api.Op
	for _, row := range []struct {
		prec, typ int
		names     string
	}{
		{1200, api.XFX, `:- -->`},
		{1200, api.FX, `:- ?-`},
		{1100, api.XFY, `;`},
		{1050, api.XFY, `->`},
		{1000, api.XFY, `,`},
		{900, api.FY, `\+`},
		{700, api.XFX, `= \= == \== @< @=< @> @>= =.. is =:= =\= < =< > >=`},
		{500, api.YFX, `+ - /\ \/`},
		{400, api.YFX, `* / // rem mod div << >>`},
		{200, api.XFX, `**`},
		{200, api.XFY, `^`},
		{200, api.FY, `+ - \`},
	} {
		for _, name := range strings.Fields(row.names) {
			l = append(l, op(row.prec, row.typ, name))
		}
	}
	return l
}

// P7.1
func TestDefault(t *testing.T) {
	if got := Default(); !slices.Equal(got, ordered(chapter())) || !Valid(got) {
		t.Errorf("Default() = %v", got)
	}
}

// P7.1, R4: each call returns a table of its own.
func TestDefaultSharesNoMemory(t *testing.T) {
	l := Default()
	for i := range l {
		l[i] = op(1, api.FX, "spoilt")
	}
	_ = append(l, op(1, api.FX, "spoilt"))
	if got := Default(); !slices.Equal(got, ordered(chapter())) {
		t.Errorf("Default() = %v after a change of its result", got)
	}
}

// P7.1
func TestValid(t *testing.T) {
	for _, l := range validTables() {
		if !Valid(l) {
			t.Errorf("Valid(%v) = false", l)
		}
	}
	for _, l := range invalidTables() {
		if Valid(l) {
			t.Errorf("Valid(%v) = true", l)
		}
	}
}

// mayExist reports whether an operator with these parts is valid, as the chapter states it.
func mayExist(prec, typ int, name string) bool {
	switch {
	case !slices.Contains(allTypes(), typ) || prec < 1 || prec > 1200 || len(name) > 100 || name == "[]" || name == "{}":
		return false
	case name == ",":
		return typ == api.XFY && prec == 1000
	case name == "|":
		return class(typ) == 2 && prec >= 1001
	}
	return true
}

// P7.1
func TestValidWithOneOperator(t *testing.T) {
	for _, name := range append(samples(), tooLong()...) {
		for _, typ := range append(allTypes(), notTypes()...) {
			for _, prec := range append(priorities(), notPriorities()...) {
				if got := Valid([]api.Op{op(prec, typ, name)}); got != mayExist(prec, typ, name) {
					t.Errorf("Valid of the operator %d, %d, %.200q: %v", prec, typ, name, got)
				}
			}
		}
	}
}

// P7.1: whether two operators may stand next to one another.
func TestValidWithTwoOperators(t *testing.T) {
	names := []string{"", "A", "a", "a\x00", "aa", "b", "\x7f", "\x80", "\xff"}
	for i, first := range names {
		for j, second := range names {
			for _, before := range allTypes() {
				for _, after := range allTypes() {
					want := i < j
					if i == j {
						want = class(before) == 1 && class(after) != 1
					}
					l := []api.Op{op(200, before, first), op(200, after, second)}
					if got := Valid(l); got != want {
						t.Errorf("Valid(%v) = %v", l, got)
					}
				}
			}
		}
	}
}

// P7.1: no table that has an invalid part anywhere is valid.
func TestValidLooksAtAllOperators(t *testing.T) {
	for _, l := range [][]api.Op{Default(), full(), full()[:3]} {
		for i := range l {
			for _, bad := range []api.Op{{}, op(0, api.FY, l[i].Name), op(1201, l[i].Type, l[i].Name), op(5, 0, l[i].Name), op(5, math.MaxInt, l[i].Name), op(5, api.FY, l[i].Name+longest()), op(5, api.FY, "[]")} {
				m := slices.Clone(l)
				m[i] = bad
				if Valid(m) {
					t.Errorf("Valid(%v) = true", m)
				}
			}
			if m := slices.Insert(slices.Clone(l), i, l[i]); Valid(m) {
				t.Errorf("Valid(%v) = true", m)
			}
			if m := slices.Clone(l); i > 0 {
				m[i-1], m[i] = m[i], m[i-1]
				if Valid(m) {
					t.Errorf("Valid(%v) = true", m)
				}
			}
		}
	}
}

// lookups are the functions that look up operators, by the place of their class.
func lookups() map[int]func(l []api.Op, name string) (api.Op, bool) {
	return map[int]func(l []api.Op, name string) (api.Op, bool){1: Prefix, 2: Infix, 3: Postfix}
}

// P7.1
func TestLookups(t *testing.T) {
	for _, l := range validTables() {
		names := append(samples(), tooLong()...)
		for _, o := range l {
			names = append(names, o.Name)
		}
		for _, name := range names {
			found := false
			for place, f := range lookups() {
				want, has := having(l, place, name)
				if got, ok := f(l, name); got != want || ok != has {
					t.Errorf("class %d, %.200q in %v: %v, %v", place, name, l, got, ok)
				}
				found = found || has
			}
			if Is(l, name) != found {
				t.Errorf("Is(%v, %.200q) = %v", l, name, !found)
			}
		}
	}
}

// P7.1
func TestLookupsInInvalidTables(t *testing.T) {
	for _, l := range invalidTables() {
		for _, name := range []string{"a", "b", "c", "n150", "", ",", "|", "[]", "{}"} {
			for place, f := range lookups() {
				if got, ok := f(l, name); got != (api.Op{}) || ok {
					t.Errorf("class %d, %q in %v: %v, %v", place, name, l, got, ok)
				}
			}
			if Is(l, name) {
				t.Errorf("Is(%v, %q) = true", l, name)
			}
		}
	}
}

// P7.1
func TestLookupExamples(t *testing.T) {
	if got, ok := Infix(Default(), "-"); !ok || got != op(500, api.YFX, "-") {
		t.Errorf("Infix -: %v, %v", got, ok)
	}
	if got, ok := Prefix(Default(), "-"); !ok || got != op(200, api.FY, "-") {
		t.Errorf("Prefix -: %v, %v", got, ok)
	}
	if got, ok := Postfix(Default(), "-"); ok || got != (api.Op{}) {
		t.Errorf("Postfix -: %v, %v", got, ok)
	}
	if Is(Default(), "foo") || !Is(Default(), "?-") {
		t.Error("Is foo, ?-")
	}
}

// P7.1 with R4: tables, their spare capacity included, remain as they are.
func TestLookupsLeaveTheTable(t *testing.T) {
	for _, l := range [][]api.Op{Default(), full(), invalidTables()[3]} {
		before := append(slices.Clone(l), op(1, api.FX, "spare"))
		roomy := slices.Clone(before)
		for _, name := range append(samples(), "n150") {
			for _, f := range lookups() {
				f(roomy[:len(l)], name)
			}
			Is(roomy[:len(l)], name)
		}
		Valid(roomy[:len(l)])
		if !slices.Equal(roomy, before) {
			t.Errorf("%v has become %v", before, roomy)
		}
	}
}
