package subst

import (
	"math/rand"
	"testing"

	"hornbeam/api"
)

// checkUnify compares what Unify returns with what is wanted.
func checkUnify(t *testing.T, l []api.Binding, p, q api.Term, want []api.Binding, e api.Errno) {
	t.Helper()
	got, ge := Unify(l, p, q)
	if ge != e || !equalBindings(got, want) {
		t.Errorf("Unify(%s, %s) with %s is %s, %d, not %s, %d", text(p), text(q), texts(l), texts(got), ge, texts(want), e)
	}
}

// P5.4: the rules for variables.
func TestUnifyVariables(t *testing.T) {
	for _, c := range []struct{ s, r []api.Binding }{{nil, nil}, {list(1, a("a")), list(1, a("a"))}} {
		checkUnify(t, c.s, x(4), x(4), c.r, api.OK)
		checkUnify(t, c.s, x(1), x(1), c.r, api.OK)
		checkUnify(t, c.s, s("f", x(4), x(1)), s("f", x(4), x(1)), c.r, api.OK)
	}
	checkUnify(t, nil, x(2), x(1), list(2, x(1)), api.OK)
	checkUnify(t, nil, x(1), x(2), list(2, x(1)), api.OK)
	checkUnify(t, nil, x(0), x(api.MaxVar), list(api.MaxVar, x(0)), api.OK)
	checkUnify(t, nil, x(3), s("f", x(2)), list(3, s("f", x(2))), api.OK)
	checkUnify(t, nil, i(0), x(3), list(3, i(0)), api.OK)
	checkUnify(t, nil, x(0), a(""), list(0, a("")), api.OK)
	checkUnify(t, nil, x(3), s("f", x(3)), nil, api.ErrOccurs)
	checkUnify(t, nil, s("f", a("a"), s("g", x(3))), x(3), nil, api.ErrOccurs)
}

// P5.4: variables are followed first, and are bound to terms as they stand.
func TestUnifyFollows(t *testing.T) {
	checkUnify(t, list(0, x(5)), x(0), x(4), []api.Binding{bind(0, x(5)), bind(5, x(4))}, api.OK)
	checkUnify(t, list(0, x(3)), x(0), x(5), []api.Binding{bind(0, x(3)), bind(5, x(3))}, api.OK)
	checkUnify(t, list(5, x(3)), x(5), x(0), []api.Binding{bind(3, x(0)), bind(5, x(3))}, api.OK)
	checkUnify(t, list(0, x(4), x(3)), x(0), x(1), []api.Binding{bind(0, x(4)), bind(1, x(3)), bind(4, x(3))}, api.OK)
	checkUnify(t, list(0, x(4), x(4)), x(0), x(1), list(0, x(4), x(4)), api.OK)
	checkUnify(t, list(0, x(4), x(4)), x(1), x(4), list(0, x(4), x(4)), api.OK)
	checkUnify(t, list(0, s("f", x(1)), a("a")), x(2), x(0), list(0, s("f", x(1)), a("a"), s("f", x(1))), api.OK)
	checkUnify(t, list(0, a("a")), x(2), s("g", x(0), x(3)), []api.Binding{bind(0, a("a")), bind(2, s("g", x(0), x(3)))}, api.OK)
	checkUnify(t, list(0, a("a")), x(0), a("a"), list(0, a("a")), api.OK)
	checkUnify(t, list(0, a("a")), x(0), a("b"), nil, api.ErrNone)
	checkUnify(t, list(0, a("a")), a("b"), x(0), nil, api.ErrNone)
	checkUnify(t, list(0, s("f", x(1))), x(0), s("f", i(1)), list(0, s("f", x(1)), i(1)), api.OK)
	checkUnify(t, list(0, x(2), s("f", x(0))), x(2), x(1), nil, api.ErrOccurs)
	checkUnify(t, list(0, x(2), s("f", x(0))), x(0), s("g", a("a"), x(1)), nil, api.ErrOccurs)
	checkUnify(t, list(0, s("f", x(5))), x(5), s("g", x(0)), nil, api.ErrOccurs)
	checkUnify(t, list(0, x(5)), x(5), x(0), list(0, x(5)), api.OK)
	checkUnify(t, list(0, x(5)), x(0), s("g", x(5)), nil, api.ErrOccurs)
}

// P5.4: terms that are not variables.
func TestUnifyConstantsAndStructures(t *testing.T) {
	l := []api.Term{
		i(0), i(1), i(-1), i(1 << 40), a(""), a("a"), a("b"), a("0"), a("f"), a("[]"), s("f", a("a")), s("f", a("b")), s("g", a("a")), s("", a("a")), s("f", i(1)),
		s("f", a("a"), a("a")), s("f", a("a"), a("b")), s("f", a("b"), a("a")), s("g", a("a"), a("b")), s("f", s("f", a("a"))), s("f", s("g", a("a"))), s("f", s("f", a("b"))),
		s("f", i(1), i(2), i(3), i(4), i(5), i(6), i(7), i(8)), s("f", i(1), i(2), i(3), i(4), i(5), i(6), i(7), i(9)), s("f", i(1), i(2), i(3), i(4), i(5), i(6), i(7)), chain(api.MaxSize, a("a")), chain(api.MaxSize, a("b")), chain(api.MaxSize-1, a("a")),
	}
	for k, p := range l {
		for m, q := range l {
			e := api.ErrNone
			if k == m {
				e = api.OK
			}
			checkUnify(t, nil, p, q, nil, e)
		}
	}
	checkUnify(t, nil, s("f", x(0), x(0)), s("f", x(1), a("a")), list(0, a("a"), x(0)), api.OK)
	checkUnify(t, nil, s("f", x(1), x(2), x(3)), s("f", s("g", x(0)), s("g", x(1)), s("g", x(2))), list(1, s("g", x(0)), s("g", x(1)), s("g", x(2))), api.OK)
	checkUnify(t, nil, s("f", x(0), x(1)), s("f", s("g", x(1)), s("g", x(0))), nil, api.ErrOccurs)
	checkUnify(t, list(1, a("b"), a("c")), s("f", x(0), x(1)), s("f", i(1), x(4)), []api.Binding{bind(0, i(1)), bind(1, a("b")), bind(2, a("c")), bind(4, a("b"))}, api.OK)
}

// P5.4: the pairs are processed from left to right, arguments of arguments first, and the first that ends the unification decides.
func TestUnifyOrder(t *testing.T) {
	checkUnify(t, nil, s("f", x(0), a("b")), s("f", a("a"), a("c")), nil, api.ErrNone)
	checkUnify(t, nil, s("f", a("b"), x(0)), s("f", a("c"), s("g", x(0))), nil, api.ErrNone)
	checkUnify(t, nil, s("f", x(0), a("b")), s("f", s("g", x(0)), a("c")), nil, api.ErrOccurs)
	checkUnify(t, nil, s("f", s("g", a("b")), x(0)), s("f", s("g", a("c")), s("g", x(0))), nil, api.ErrNone)
	checkUnify(t, nil, s("f", s("g", x(0)), a("b")), s("f", s("g", s("g", x(0))), a("c")), nil, api.ErrOccurs)
	checkUnify(t, nil, s("f", s("g", a("a"), s("h", x(0))), a("b"), x(1)), s("f", s("g", a("a"), s("h", s("h", x(0)))), a("c"), x(1)), nil, api.ErrOccurs)
	checkUnify(t, nil, s("f", x(0), x(0), x(1)), s("f", a("a"), a("b"), s("g", x(1))), nil, api.ErrNone)
	checkUnify(t, nil, s("f", x(0), s("h", x(0))), s("f", x(1), s("h", s("g", x(1)))), nil, api.ErrOccurs)
	checkUnify(t, nil, s("f", x(0), s("h", x(1)), x(1)), s("f", a("a"), s("h", x(2)), x(0)), list(0, a("a"), a("a"), x(1)), api.OK)
}

// P5.4: MaxSteps pairs may be processed, and no more.
func TestUnifyLimit(t *testing.T) {
	// The term to which X0 is bound has 2^20 - 1 nodes when resolved.
	l := steps(0, 19, twice)
	checkUnify(t, l, x(0), x(0), l, api.OK)
	checkUnify(t, l, s("c", x(0)), s("c", x(0)), l, api.OK)
	checkUnify(t, l, chain(3, x(0)), chain(3, x(0)), nil, api.ErrLong)
	checkUnify(t, l, s("f", x(0), a("a")), s("f", x(0), a("b")), nil, api.ErrLong)
	checkUnify(t, l, s("f", a("a"), x(0)), s("f", a("b"), x(0)), nil, api.ErrNone)
	checkUnify(t, l, s("f", x(20), x(0)), s("f", s("g", x(20)), x(0)), nil, api.ErrOccurs)
	checkUnify(t, steps(0, 500, twice), x(0), x(0), nil, api.ErrLong)
	l = plus(l, steps(20, 19, twice)...)
	checkUnify(t, l, s("c", x(0)), s("c", x(20)), plus(l, bind(39, x(19))), api.OK)
}

// P5.4: the pair that is the last to be processed decides as any other does; the one after it is not looked at.
func TestUnifyLastPair(t *testing.T) {
	for _, c := range []struct {
		p, q api.Term
		r    []api.Binding
		e    api.Errno
	}{
		{a("a"), a("a"), nil, api.OK}, {a("a"), a("b"), nil, api.ErrNone}, {x(20), s("g", x(20)), nil, api.ErrOccurs}, {s("g", a("a")), x(20), list(20, s("g", a("a"))), api.OK},
	} {
		// The first six arguments have 2^20 - 2^14 - 6 nodes, and the last pair but one is number 2^20 - 1.
		around := func(last api.Term) api.Term { return s("f", x(1), x(2), x(3), x(4), x(5), x(6), x(100), last) }
		l := plus(steps(0, 19, twice), steps(100, 1<<14+3, wrapped)...)
		want := plus(l, c.r...)
		if c.e != api.OK {
			want = nil
		}
		checkUnify(t, l, around(c.p), around(c.q), want, c.e)
		l = plus(steps(0, 19, twice), steps(100, 1<<14+4, wrapped)...)
		checkUnify(t, l, around(c.p), around(c.q), nil, api.ErrLong)
	}
}

// P5.4: bindings that make very deep terms.
func TestUnifyDeep(t *testing.T) {
	const deep = 1 << 16
	for _, of := range []func(api.Term) api.Term{wrapped, func(next api.Term) api.Term { return s("f", next, i(1), i(2)) }} {
		l := plus(steps(0, deep, of), steps(deep+1, deep, of)...)
		checkUnify(t, l, x(0), x(deep+1), plus(l, bind(2*deep+1, x(deep))), api.OK)
		checkUnify(t, l, x(deep), s("f", x(0)), nil, api.ErrOccurs)
		l = plus(l, bind(2*deep+1, a("a")))
		checkUnify(t, l, x(deep+1), x(0), plus(l, bind(deep, a("a"))), api.OK)
	}
}

// unifyByTheChapter unifies small terms as the chapter's definition says; bound are the bindings.
func unifyByTheChapter(bound map[int64]api.Term, p, q api.Term) api.Errno {
	for to, ok := bound[p.N]; ok && p.Kind == api.KindVar; to, ok = bound[p.N] {
		p = to
	}
	for to, ok := bound[q.N]; ok && q.Kind == api.KindVar; to, ok = bound[q.N] {
		q = to
	}
	switch {
	case p.Kind == api.KindVar && q.Kind == api.KindVar:
		if p.N > q.N {
			bound[p.N] = q
		} else if p.N < q.N {
			bound[q.N] = p
		}
		return api.OK
	case q.Kind == api.KindVar:
		return unifyByTheChapter(bound, q, p)
	case p.Kind == api.KindVar:
		if contains(replaced(bound, q, true), p.N) {
			return api.ErrOccurs
		}
		bound[p.N] = q
		return api.OK
	case p.Kind != q.Kind || p.N != q.N || p.Name != q.Name || len(p.Args) != len(q.Args):
		return api.ErrNone
	}
	for k := range p.Args {
		if e := unifyByTheChapter(bound, p.Args[k], q.Args[k]); e != api.OK {
			return e
		}
	}
	return api.OK
}

// P5.4: random terms, compared with the definition.
func TestUnifyRandom(t *testing.T) {
	r := rand.New(rand.NewSource(9))
	count := map[api.Errno]int{}
	for range 20000 {
		l, p, q := smallBindings(r), small(r, someVars(), 2), small(r, someVars(), 2)
		bound := mapped(l)
		e := unifyByTheChapter(bound, p, q)
		want := listed(bound)
		if e != api.OK {
			want = nil
		}
		count[e]++
		checkUnify(t, l, p, q, want, e)
	}
	for _, e := range []api.Errno{api.OK, api.ErrNone, api.ErrOccurs} {
		if count[e] < 500 {
			t.Errorf("error %d: %d times", e, count[e])
		}
	}
}

// P5.4: arguments that are not valid, whatever the others are.
func TestUnifyInvalid(t *testing.T) {
	all, wrong := []api.Term{a("a"), a("b"), x(0), x(9), s("f", x(9))}, invalidBindings()
	for _, l := range wrong {
		for _, p := range all {
			checkUnify(t, l, p, a("a"), nil, api.ErrArg)
		}
	}
	for k, u := range invalid() {
		for _, p := range append(all, u) {
			for _, l := range [][]api.Binding{nil, list(0, a("a")), wrong[0]} {
				if r, e := Unify(l, u, p); e != api.ErrArg || len(r) > 0 {
					t.Errorf("term %d is the first argument of Unify: %d", k, e)
				}
				if r, e := Unify(l, p, u); e != api.ErrArg || len(r) > 0 {
					t.Errorf("term %d is the second argument of Unify: %d", k, e)
				}
			}
		}
	}
}
