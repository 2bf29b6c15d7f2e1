package subst

import (
	"math"
	"math/rand"
	"testing"

	"hornbeam/api"
)

// P5.2
func TestResolve(t *testing.T) {
	two := list(0, s("f", x(1)), a("a"))
	for k, c := range []struct {
		s    []api.Binding
		t, r api.Term
	}{
		{two, s("g", x(0), x(2)), s("g", s("f", a("a")), x(2))}, {list(0, s("f", x(1)), a("b")), x(0), s("f", a("b"))}, {two, x(1), a("a")}, {two, x(2), x(2)}, {two, i(1), i(1)}, {two, a("a"), a("a")},
		{nil, s("f", x(0), x(api.MaxVar)), s("f", x(0), x(api.MaxVar))}, {list(0, x(1), x(2), s("h", x(3), x(3))), s("f", x(0), x(1), x(2), x(3)), s("f", s("h", x(3), x(3)), s("h", x(3), x(3)), s("h", x(3), x(3)), x(3))},
		{[]api.Binding{bind(3, s("f", x(api.MaxVar), x(5))), bind(api.MaxVar, s("g", x(0)))}, s("f", x(3), x(4)), s("f", s("f", s("g", x(0)), x(5)), x(4))},
		{list(1, x(0), x(1), x(2)), s("f", x(3), s("f", x(2), s("f", x(1), x(0)))), s("f", x(0), s("f", x(0), s("f", x(0), x(0))))}, {steps(0, 5000, same), s("f", x(0), x(7)), s("f", x(5000), x(5000))},
	} {
		r, e := Resolve(c.s, c.t)
		if !equal(r, c.r) || e != api.OK {
			t.Errorf("%d: Resolve(%s) is %s, %d", k, text(c.t), text(r), e)
		}
	}
}

// P5.2: terms of the greatest size, and larger ones.
func TestResolveLimit(t *testing.T) {
	for k, c := range []struct {
		s []api.Binding
		t api.Term
		n int // the size of the resolved term
	}{
		{nil, chain(api.MaxSize, x(0)), api.MaxSize}, {list(0, a("a")), chain(api.MaxSize, x(0)), api.MaxSize}, {list(0, x(1)), chain(api.MaxSize, x(0)), api.MaxSize}, {list(0, s("c", a("a"))), chain(api.MaxSize, x(0)), api.MaxSize + 1},
		{list(0, chain(api.MaxSize, x(1))), x(0), api.MaxSize}, {list(0, chain(1000, x(1)), chain(1001, x(2))), x(0), api.MaxSize}, {list(0, chain(1000, x(1)), chain(1002, x(2))), x(0), api.MaxSize + 1},
		{list(0, chain(999, a("a"))), s("f", x(0), x(0)), 1999}, {list(0, chain(999, a("a"))), s("f", x(0), x(0), x(1)), api.MaxSize}, {list(0, chain(999, a("a"))), s("f", x(0), x(0), x(1), x(2)), api.MaxSize + 1}, {list(0, chain(999, a("a"))), s("f", x(1), x(0), i(2), x(0)), api.MaxSize + 1},
		{steps(0, 9, twice), x(0), 1023}, {steps(0, 9, twice), s("f", chain(975, a("a")), x(0)), 1999}, {steps(0, 9, twice), s("f", chain(977, a("a")), x(0)), api.MaxSize + 1}, {steps(0, 10, twice), x(0), api.MaxSize + 1}, {steps(0, 12, twice), x(0), api.MaxSize + 1},
		{steps(0, 500, twice), x(0), api.MaxSize + 1}, {steps(0, 500, twice), x(495), 63}, {steps(0, 1999, wrapped), x(0), api.MaxSize}, {steps(0, 2000, wrapped), x(0), api.MaxSize + 1}, {steps(0, 1<<16, wrapped), x(0), api.MaxSize + 1}, {steps(0, 1<<16, wrapped), x(1<<16 - 5), 6},
	} {
		r, e := Resolve(c.s, c.t)
		if c.n > api.MaxSize && (e != api.ErrLong || !isZero(r)) || c.n <= api.MaxSize && (e != api.OK || len(nodes(r)) != c.n) {
			t.Errorf("%d: a term of %d nodes: %d", k, c.n, e)
		}
	}
}

// P5.2: random terms, compared with repeated replacing.
func TestResolveRandom(t *testing.T) {
	r := rand.New(rand.NewSource(7))
	for range 5000 {
		l, u := smallBindings(r), small(r, someVars(), 3)
		want, e := replaced(mapped(l), u, true), api.OK
		if len(nodes(want)) > api.MaxSize {
			want, e = api.Term{}, api.ErrLong
		}
		got, ge := Resolve(l, u)
		if check(t, "Resolve", got, want); ge != e {
			t.Errorf("Resolve(%s) with %s: %d, not %d", text(u), texts(l), ge, e)
		}
	}
}

// P5.2: arguments that are not valid, also where the resolved term would be too large.
func TestResolveInvalid(t *testing.T) {
	for k, l := range invalidBindings() {
		for _, u := range []api.Term{a("a"), x(0), x(9), s("f", x(0), x(1))} {
			if r, e := Resolve(l, u); e != api.ErrArg || !isZero(r) {
				t.Errorf("list %d: Resolve(%s) is %s, %d", k, text(u), text(r), e)
			}
		}
	}
	lists := [][]api.Binding{nil, list(0, a("a")), steps(0, 500, twice), list(0, x(0))}
	for k, u := range invalid() {
		for _, l := range lists {
			if r, e := Resolve(l, u); e != api.ErrArg || !isZero(r) {
				t.Errorf("Resolve of term %d is %s, %d", k, text(r), e)
			}
		}
	}
}

// P5.3
func TestOccurs(t *testing.T) {
	l := list(0, s("f", x(1), x(5)), x(2), s("g", x(3), a("a")))
	for _, c := range []struct {
		s  []api.Binding
		v  int64
		t  api.Term
		ok bool
	}{
		{nil, 3, x(3), true}, {nil, 3, x(2), false}, {nil, 0, i(0), false}, {nil, 0, a("a"), false}, {nil, 3, s("f", a("a"), s("g", i(1), x(3))), true}, {nil, 3, s("f", i(3), x(4)), false}, {nil, api.MaxVar, s("f", x(api.MaxVar)), true},
		{l, 3, x(0), true}, {l, 5, x(0), true}, {l, 3, x(1), true}, {l, 5, x(1), false}, {l, 3, x(2), true}, {l, 4, x(0), false}, {l, 3, s("h", x(4), x(0)), true}, {l, 4, s("h", x(4), x(0)), true}, {l, 3, i(3), false}, {l, 6, s("f", x(0), x(1), x(2), x(3)), false},
		{l, 0, x(0), false}, {l, 1, x(0), false}, {l, 2, s("f", x(0), x(1), x(2)), false}, {l, 0, s("f", x(0)), false},
		{nil, -1, x(0), false}, {nil, math.MinInt64, x(0), false}, {nil, api.MaxVar + 1, s("f", x(0), x(api.MaxVar)), false}, {nil, math.MaxInt64, a("a"), false}, {l, -1, x(0), false},
		{steps(0, 12, twice), 12, x(0), true}, {steps(0, 500, twice), 500, x(0), true}, {steps(0, 500, twice), 500, s("f", a("a"), x(3)), true}, {steps(0, 500, twice), 501, x(0), false}, {steps(0, 500, twice), 499, x(0), false},
		{steps(0, 1<<16, wrapped), 1 << 16, x(0), true}, {steps(0, 1<<16, same), 1 << 16, x(0), true}, {steps(0, 1<<16, twice), 1<<16 + 1, x(0), false},
	} {
		if ok := Occurs(c.s, c.v, c.t); ok != c.ok {
			t.Errorf("Occurs(%d, %s) with %s is %v", c.v, text(c.t), texts(c.s), ok)
		}
	}
}

// P5.3: random terms, compared with the variables of the resolved term.
func TestOccursRandom(t *testing.T) {
	r := rand.New(rand.NewSource(8))
	for range 5000 {
		l, u := smallBindings(r), small(r, someVars(), 3)
		resolved := replaced(mapped(l), u, true)
		for _, v := range append(someVars(), 4) {
			if want := contains(resolved, v); Occurs(l, v, u) != want {
				t.Errorf("Occurs(%d, %s) with %s is not %v", v, text(u), texts(l), want)
			}
		}
	}
}

// P5.3: arguments that are not valid.
func TestOccursInvalid(t *testing.T) {
	for k, l := range invalidBindings() {
		for v := range int64(20) {
			if Occurs(l, v, x(v)) || Occurs(l, v, s("f", a("a"), x(v))) {
				t.Errorf("the variable %d occurs with list %d", v, k)
			}
		}
	}
	for k, u := range invalid() {
		for _, v := range []int64{0, -1, u.N} {
			if Occurs(nil, v, u) || Occurs(nil, 1, s("f", x(1), u)) {
				t.Errorf("the variable %d occurs in term %d", v, k)
			}
		}
	}
}
