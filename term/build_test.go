package term

import (
	"math"
	"slices"
	"testing"

	"hornbeam/api"
)

// P3.6
func TestLeaves(t *testing.T) {
	for _, n := range []int64{0, 1, 17, 1 << 33, api.MaxVar - 1, api.MaxVar} {
		check(t, "Var", Var(n), x(n))
	}
	for _, n := range []int64{-1, api.MaxVar + 1, math.MinInt64, math.MaxInt64} {
		check(t, "Var", Var(n), api.Term{})
	}
	for _, n := range []int64{0, 1, -1, api.MaxVar + 1, math.MinInt64, math.MaxInt64} {
		check(t, "Int", Int(n), i(n))
	}
	for _, name := range []string{"", "a", "[]", "A b", "\x00\xff", longest()} {
		check(t, "Atom", Atom(name), a(name))
	}
	check(t, "Atom", Atom(longest()+"n"), api.Term{})
}

// P3.6
func TestStruct(t *testing.T) {
	check(t, "Struct", Struct("f"), a("f"))
	check(t, "Struct", Struct("f", []api.Term{}...), a("f"))
	check(t, "Struct", Struct(""), a(""))
	check(t, "Struct", Struct(longest()), a(longest()))
	check(t, "Struct", Struct(longest()+"n"), api.Term{})
	check(t, "Struct", Struct(longest()+"n", x(0)), api.Term{})
	check(t, "Struct", Struct("f", a("a"), i(1)), s("f", a("a"), i(1)))
	check(t, "Struct", Struct("", x(0)), s("", x(0)))
	check(t, "Struct", Struct("f", chain(1999, x(0))), s("f", chain(1999, x(0))))
	check(t, "Struct", Struct("f", chain(2000, x(0))), api.Term{})
	check(t, "Struct", Struct("f", chain(1000, x(0)), chain(1000, x(0))), api.Term{})
	args := []api.Term{x(0), i(1), a("a"), s("f", x(0)), x(0), i(2), a("b"), s("g", x(1))}
	for n := 1; n <= api.MaxArity; n++ {
		check(t, "Struct", Struct("f", args[:n]...), s("f", args[:n]...))
	}
	check(t, "Struct", Struct("f", append(args, x(0))...), api.Term{})
	check(t, "Struct", Struct("f", make([]api.Term, 1000000)...), api.Term{})
	for k, u := range invalid() {
		if r := Struct("f", u); !isZero(r) {
			t.Errorf("term %d is an argument", k)
		}
		if r := Struct("f", x(0), u, x(0)); !isZero(r) {
			t.Errorf("term %d is the second argument", k)
		}
	}
}

// P3.6
func TestIndicator(t *testing.T) {
	for arity := range api.MaxArity + 1 {
		for _, name := range []string{"", "f", "/", longest()} {
			check(t, "Indicator", Indicator(name, arity), s("/", a(name), i(int64(arity))))
		}
		check(t, "Indicator", Indicator(longest()+"n", arity), api.Term{})
	}
	for _, arity := range []int{-1, 9, math.MinInt, math.MaxInt, 1 << 32} {
		check(t, "Indicator", Indicator("f", arity), api.Term{})
	}
}

// P3.7
func TestList(t *testing.T) {
	check(t, "List", List([]api.Term{a("a"), a("b")}, a("[]")), s(".", a("a"), s(".", a("b"), a("[]"))))
	check(t, "List", List([]api.Term{a("[]")}, x(3)), s(".", a("[]"), x(3)))
	check(t, "List", List([]api.Term{s(".", x(0), x(1))}, s(".", x(2), x(0))), s(".", s(".", x(0), x(1)), s(".", x(2), x(0))))
	for _, tail := range valid() {
		check(t, "List", List(nil, tail), tail)
		check(t, "List", List([]api.Term{}, tail), tail)
	}
}

// P3.7: lists of the greatest size, and terms that are not valid.
func TestListLimits(t *testing.T) {
	ones := slices.Repeat([]api.Term{i(1)}, 3000)
	check(t, "List", List(ones[:999], a("[]")), flat(999))
	check(t, "List", List(ones[:1], chain(1998, x(0))), s(".", i(1), chain(1998, x(0))))
	for _, n := range []int{1000, 1001, 1999, 2000, 2001, 3000} {
		check(t, "List", List(ones[:n], a("[]")), api.Term{})
	}
	check(t, "List", List(ones[:999], s("f", a("a"))), s(".", i(1), List(ones[:998], s("f", a("a")))))
	check(t, "List", List(ones[:999], s("f", a("a"), a("b"))), api.Term{})
	check(t, "List", List([]api.Term{chain(1999, x(0))}, a("[]")), api.Term{})
	check(t, "List", List(make([]api.Term, 1000000), a("[]")), api.Term{})
	for k, u := range invalid() {
		for _, r := range []api.Term{List(nil, u), List([]api.Term{x(0)}, u), List([]api.Term{u}, x(0)), List([]api.Term{x(0), u, x(0)}, x(0)), List([]api.Term{u}, u)} {
			if !isZero(r) {
				t.Errorf("term %d is in a list", k)
			}
		}
	}
}

// P3.7
func TestElems(t *testing.T) {
	pair := s(".", a("b"), a("[]"))
	for k, c := range []struct {
		t    api.Term
		l    []api.Term
		tail api.Term
	}{
		{s(".", a("a"), s(".", a("b"), x(0))), []api.Term{a("a"), a("b")}, x(0)}, {s(".", a("a"), pair), []api.Term{a("a"), a("b")}, a("[]")},
		{a("[]"), nil, a("[]")}, {x(4), nil, x(4)}, {i(4), nil, i(4)}, {a("."), nil, a(".")},
		{s(".", a("a")), nil, s(".", a("a"))}, {s(".", a("a"), pair, a("[]")), nil, s(".", a("a"), pair, a("[]"))}, {s("|", a("a"), pair), nil, s("|", a("a"), pair)}, {s("", a("a"), pair), nil, s("", a("a"), pair)},
		{s(".", a("a"), s(".", pair)), []api.Term{a("a")}, s(".", pair)}, {s(".", a("a"), s("f", x(0), pair)), []api.Term{a("a")}, s("f", x(0), pair)}, {s(".", pair, pair), []api.Term{pair, a("b")}, a("[]")},
		{flat(999), slices.Repeat([]api.Term{i(1)}, 999), a("[]")}, {s("f", pair), nil, s("f", pair)},
	} {
		l, tail := Elems(c.t)
		if check(t, "the tail", tail, c.tail); !slices.EqualFunc(l, c.l, equal) {
			t.Errorf("%d: the elements are %s", k, text(s("", l...)))
		}
	}
	for k, u := range append(invalid(), s(".", a("a"), x(-1)), s(".", x(-1), a("[]"))) {
		if l, tail := Elems(u); len(l) != 0 || !isZero(tail) {
			t.Errorf("term %d has %d elements", k, len(l))
		}
	}
}
