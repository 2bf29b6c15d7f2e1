package subst

import (
	"math/rand"
	"slices"
	"testing"

	"hornbeam/api"
	"hornbeam/term"
)

// P5.7
func TestResolvedTerms(t *testing.T) {
	r := rand.New(rand.NewSource(11))
	for range 5000 {
		l, u := smallBindings(r), small(r, someVars(), 3)
		once, e := Resolve(l, u)
		if e != api.OK {
			continue
		}
		for _, b := range l {
			if contains(once, b.Var) {
				t.Errorf("%s contains a bound variable: %s", text(once), texts(l))
			}
		}
		again, e := Resolve(l, once)
		if check(t, "resolving again", again, once); e != api.OK {
			t.Errorf("resolving %s again: %d", text(once), e)
		}
	}
}

// P5.8
func TestUnifiers(t *testing.T) {
	r := rand.New(rand.NewSource(12))
	unified := 0
	for range 10000 {
		l, p, q := smallBindings(r), small(r, someVars(), 2), small(r, someVars(), 2)
		got, e := Unify(l, p, q)
		checkUnify(t, l, q, p, got, e)
		if e != api.OK {
			continue
		}
		unified++
		if !Valid(got) {
			t.Errorf("Unify(%s, %s) with %s is not valid: %s", text(p), text(q), texts(l), texts(got))
		}
		now := mapped(got)
		for _, b := range l {
			if to, bound := now[b.Var]; !bound || !equal(to, b.To) {
				t.Errorf("Unify(%s, %s) has lost a binding of %s: %s", text(p), text(q), texts(l), texts(got))
			}
		}
		u, ue := Resolve(got, p)
		v, ve := Resolve(got, q)
		if !equal(u, v) || ue != ve {
			t.Errorf("%s makes %s of %s, and %s of %s", texts(got), text(u), text(p), text(v), text(q))
		}
	}
	if unified < 1000 {
		t.Errorf("%d pairs have been unified", unified)
	}
}

// parts returns bindings of four variables to parts of a valid term, in which parts may be replaced by variables with greater numbers.
func parts(r *rand.Rand, t api.Term) []api.Binding {
	all := nodes(t)
	var l []api.Binding
	for v := int64(3); v >= 0; v-- {
		l = slices.Insert(l, 0, bind(v, general(r, all[r.Intn(len(all))], l)))
	}
	return l
}

// general returns a term that bindings resolve to t: some parts of t are replaced by variables that resolve to them.
func general(r *rand.Rand, t api.Term, l []api.Binding) api.Term {
	for _, b := range l {
		if r.Intn(2) == 0 && equal(replaced(mapped(l), b.To, true), t) {
			return x(b.Var)
		}
	}
	g := api.Term{Kind: t.Kind, N: t.N, Name: t.Name}
	for _, arg := range t.Args {
		g.Args = append(g.Args, general(r, arg, l))
	}
	return g
}

// checkMostGeneral compares what bindings make of a term with what they make of it after a unifier.
func checkMostGeneral(t *testing.T, l, unifier []api.Binding, p api.Term) {
	t.Helper()
	first, e := Resolve(unifier, p)
	if e != api.OK {
		t.Errorf("Resolve(%s): %d", text(p), e)
	}
	direct, de := Resolve(l, p)
	after, ae := Resolve(l, first)
	if !equal(direct, after) || de != ae {
		t.Errorf("%s makes %s of %s, and %s of %s", texts(l), text(direct), text(p), text(after), text(first))
	}
}

// P5.9: terms that bindings resolve to the same term.
func TestMostGeneralUnifiers(t *testing.T) {
	r := rand.New(rand.NewSource(13))
	bound := 0
	for range 5000 {
		common := small(r, []int64{10, 11, api.MaxVar}, 4)
		l := parts(r, common)
		p, q := general(r, common, l), general(r, common, l)
		for _, u := range []api.Term{p, q} {
			if resolved, e := Resolve(l, u); e != api.OK || !equal(resolved, common) {
				t.Fatalf("%s makes %s of %s, not %s", texts(l), text(resolved), text(u), text(common))
			}
		}
		unifier, e := Unify(nil, p, q)
		if e != api.OK {
			t.Errorf("Unify(%s, %s) is %d", text(p), text(q), e)
			continue
		}
		bound += len(unifier)
		checkMostGeneral(t, l, unifier, p)
		checkMostGeneral(t, l, unifier, q)
	}
	if bound < 2000 {
		t.Errorf("%d variables have been bound", bound)
	}
}

// P5.9: random bindings that happen to resolve two terms to the same term.
func TestMostGeneralUnifiersAtRandom(t *testing.T) {
	r := rand.New(rand.NewSource(14))
	found := 0
	for range 20000 {
		l, p, q := smallBindings(r), small(r, someVars(), 2), small(r, someVars(), 2)
		u, ue := Resolve(l, p)
		v, ve := Resolve(l, q)
		if ue != api.OK || ve != api.OK || !equal(u, v) || len(slices.Concat(term.Vars(p), term.Vars(q))) == 0 {
			continue
		}
		found++
		unifier, e := Unify(nil, p, q)
		if e != api.OK {
			t.Errorf("Unify(%s, %s) is %d", text(p), text(q), e)
			continue
		}
		checkMostGeneral(t, l, unifier, p)
		checkMostGeneral(t, l, unifier, q)
	}
	if found < 500 {
		t.Errorf("%d pairs", found)
	}
}
