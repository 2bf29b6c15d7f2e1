package subst

import (
	"math/rand"
	"slices"
	"testing"

	"hornbeam/api"
	"hornbeam/term"
)

// checkMatch compares what Match returns with what is wanted.
func checkMatch(t *testing.T, pattern, u api.Term, want []api.Binding, ok bool) {
	t.Helper()
	got, gok := Match(pattern, u)
	if gok != ok || !equalBindings(got, want) {
		t.Errorf("Match(%s, %s) is %s, %v, not %s, %v", text(pattern), text(u), texts(got), gok, texts(want), ok)
	}
}

// P5.5
func TestMatch(t *testing.T) {
	checkMatch(t, s("f", x(0), x(1)), s("f", a("a"), x(0)), list(0, a("a"), x(0)), true)
	checkMatch(t, s("f", x(1), x(0)), s("f", a("a"), x(1)), list(0, x(1), a("a")), true)
	checkMatch(t, s("f", x(0), x(0)), s("f", a("b"), a("b")), list(0, a("b")), true)
	checkMatch(t, s("f", x(0), s("g", x(0))), s("f", s("h", x(0)), s("g", s("h", x(0)))), list(0, s("h", x(0))), true)
	checkMatch(t, s("f", x(api.MaxVar), x(0)), s("f", i(1), i(2)), []api.Binding{bind(0, i(2)), bind(api.MaxVar, i(1))}, true)
	checkMatch(t, s("f", x(7), x(3), x(5), x(3)), s("f", x(3), x(7), x(7), x(7)), []api.Binding{bind(3, x(7)), bind(5, x(7)), bind(7, x(3))}, true)
	checkMatch(t, s("f", x(8), x(7), x(6), x(5), x(4), x(3), x(2), x(1)), s("f", i(8), i(7), i(6), i(5), i(4), i(3), i(2), i(1)), list(1, i(1), i(2), i(3), i(4), i(5), i(6), i(7), i(8)), true)
	checkMatch(t, chain(1000, x(2)), chain(api.MaxSize, a("a")), list(2, chain(1001, a("a"))), true)
}

// P5.5: a variable of the pattern may be bound to any term, also to one in which its number occurs.
func TestMatchVariables(t *testing.T) {
	for _, u := range []api.Term{x(0), x(1), x(api.MaxVar), i(0), a("a"), a(""), s("f", x(0)), s("f", x(1), x(0)), chain(api.MaxSize, x(0))} {
		checkMatch(t, x(0), u, list(0, u), true)
		checkMatch(t, x(api.MaxVar), u, list(api.MaxVar, u), true)
		if u.Kind != api.KindVar {
			checkMatch(t, u, x(0), nil, false)
			checkMatch(t, s("f", u), s("f", x(1)), nil, false)
		}
	}
	checkMatch(t, s("f", x(0), x(1)), s("f", x(1), x(0)), list(0, x(1), x(0)), true)
	checkMatch(t, s("f", x(0), x(0)), s("f", x(0), x(1)), nil, false)
	checkMatch(t, s("f", x(0), x(0)), s("f", x(1), x(0)), nil, false)
	checkMatch(t, s("f", x(0), x(1), x(0)), s("f", s("g", x(1)), a("a"), s("g", a("a"))), nil, false)
	checkMatch(t, s("f", x(0), x(0)), s("f", a("a"), x(0)), nil, false)
}

// P5.5: terms that are not variables.
func TestMatchConstantsAndStructures(t *testing.T) {
	l := []api.Term{
		i(0), i(1), a(""), a("a"), a("f"), a("1"), s("f", a("a")), s("f", a("b")), s("g", a("a")), s("f", a("a"), a("a")), s("f", a("a"), a("b")), s("f", s("f", a("a"))), s("f", s("f", a("a"), a("a"))), s("f", s("f", a("a")), a("a")),
		s("f", i(1), i(2), i(3), i(4), i(5), i(6), i(7), i(8)), s("f", i(1), i(2), i(3), i(4), i(5), i(6), i(7), i(9)), s("f", i(1), i(2), i(3), i(4), i(5), i(6), i(7)), chain(api.MaxSize, a("a")), chain(api.MaxSize, a("b")),
	}
	for k, p := range l {
		for m, q := range l {
			checkMatch(t, p, q, nil, k == m)
		}
	}
	checkMatch(t, s("f", x(0), x(1)), s("f", a("a")), nil, false)
	checkMatch(t, s("f", x(0)), s("f", a("a"), a("b")), nil, false)
	checkMatch(t, s("f", x(0)), s("g", a("a")), nil, false)
	checkMatch(t, s("f", x(0)), a("f"), nil, false)
	checkMatch(t, s("f", x(0), a("a")), s("f", a("a"), a("b")), nil, false)
	checkMatch(t, s("f", x(0), s("g", x(1), a("a"))), s("f", a("b"), s("g", a("c"), a("b"))), nil, false)
	checkMatch(t, s("f", x(0), s("g", x(1), a("a"))), s("f", a("b"), s("g", a("c"), a("a"))), list(0, a("b"), a("c")), true)
}

// P5.5: arguments that are not valid.
func TestMatchInvalid(t *testing.T) {
	for k, u := range invalid() {
		for _, p := range []api.Term{x(0), a("a"), s("f", x(0)), s("f", a("a"), x(0)), u} {
			if l, ok := Match(p, u); ok || len(l) > 0 {
				t.Errorf("term %d is an instance of %s", k, text(p))
			}
			if l, ok := Match(u, p); ok || len(l) > 0 {
				t.Errorf("%s is an instance of term %d", text(p), k)
			}
			if l, ok := Match(s("f", x(0), p), s("f", u, p)); ok || len(l) > 0 {
				t.Errorf("a structure with term %d is an instance", k)
			}
		}
	}
}

// at returns the node to which a path of argument positions leads.
func at(t api.Term, path []int) (node api.Term, ok bool) {
	for _, k := range path {
		if k >= len(t.Args) {
			return api.Term{}, false
		}
		t = t.Args[k]
	}
	return t, true
}

// paths returns the paths to all nodes of a term.
func paths(t api.Term) [][]int {
	l := [][]int{nil}
	for k, arg := range t.Args {
		for _, path := range paths(arg) {
			l = append(l, append([]int{k}, path...))
		}
	}
	return l
}

// matchByTheChapter finds, at the path of each variable of the pattern, the term that it must become, and compares the pattern in which it has become that.
func matchByTheChapter(pattern, u api.Term) ([]api.Binding, bool) {
	found := map[int64]api.Term{}
	for _, path := range paths(pattern) {
		node, _ := at(pattern, path)
		if to, ok := at(u, path); ok && node.Kind == api.KindVar {
			found[node.N] = to
		}
	}
	if !equal(replaced(found, pattern, false), u) || len(found) < len(term.Vars(pattern)) {
		return nil, false
	}
	return listed(found), true
}

// P5.5: random terms and instances of random patterns, compared with the definition.
func TestMatchRandom(t *testing.T) {
	r := rand.New(rand.NewSource(10))
	count := map[bool]int{}
	for range 10000 {
		pattern, u := small(r, someVars(), 3), small(r, someVars(), 3)
		if r.Intn(2) == 0 {
			by := map[int64]api.Term{}
			for _, v := range someVars() {
				by[v] = small(r, someVars(), 1)
			}
			u = replaced(by, pattern, false)
		}
		want, ok := matchByTheChapter(pattern, u)
		count[ok]++
		checkMatch(t, pattern, u, want, ok)
		if l, gok := Match(pattern, u); gok {
			variables := term.Vars(pattern)
			slices.Sort(variables)
			for k, b := range l {
				if len(l) != len(variables) || b.Var != variables[k] {
					t.Errorf("Match(%s, %s) binds %s", text(pattern), text(u), texts(l))
				}
			}
		}
	}
	if count[true] < 500 || count[false] < 500 {
		t.Errorf("instances and others: %v", count)
	}
}
