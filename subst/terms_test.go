package subst

import (
	"fmt"
	"math"
	"math/rand"
	"slices"
	"strings"
	"testing"

	"hornbeam/api"
	"hornbeam/term"
)

func x(n int64) api.Term { return api.Term{Kind: api.KindVar, N: n} }

func i(n int64) api.Term { return api.Term{Kind: api.KindInt, N: n} }

func a(name string) api.Term { return api.Term{Kind: api.KindAtom, Name: name} }

func s(name string, args ...api.Term) api.Term {
	return api.Term{Kind: api.KindStruct, Name: name, Args: args}
}

// bind returns a binding; list returns bindings of the variables from first on to these terms.
func bind(v int64, to api.Term) api.Binding { return api.Binding{Var: v, To: to} }

func list(first int64, terms ...api.Term) []api.Binding {
	var l []api.Binding
	for k, t := range terms {
		l = append(l, bind(first+int64(k), t))
	}
	return l
}

// steps returns bindings of n variables from first on, each to what of returns for the next variable.
func steps(first, n int64, of func(next api.Term) api.Term) []api.Binding {
	l := make([]api.Binding, n)
	for k := range l {
		v := first + int64(k)
		l[k] = bind(v, of(x(v+1)))
	}
	return l
}

// same, wrapped and twice are arguments of steps.
func same(t api.Term) api.Term { return t }

func wrapped(t api.Term) api.Term { return s("c", t) }

func twice(t api.Term) api.Term { return s("d", t, t) }

// chain returns a structure of one argument around a structure of one argument, and so on, of n nodes; the innermost one is t.
func chain(n int, t api.Term) api.Term {
	for range n - 1 {
		t = s("c", t)
	}
	return t
}

// endless returns a term that contains itself.
func endless() api.Term {
	args := make([]api.Term, 2)
	args[0] = s("e", args...)
	args[1] = args[0]
	return args[0]
}

// invalid are terms that are not valid.
func invalid() []api.Term {
	args := []api.Term{a("a")}
	tooLong := strings.Repeat("n", api.MaxName+1)
	return []api.Term{
		x(-1), x(math.MinInt64), x(api.MaxVar + 1), x(math.MaxInt64), {Name: "a"}, {Args: args},
		{Kind: api.KindInt, Name: "1"}, {Kind: api.KindInt, Args: args}, {Kind: api.KindAtom, Name: "a", N: 1}, {Kind: api.KindAtom, Name: "a", Args: args}, a(tooLong),
		s("f"), s(tooLong, x(0)), {Kind: api.KindStruct, Name: "f", N: 1, Args: args}, s("f", make([]api.Term, api.MaxArity+1)...), s("f", a("a"), s("g", x(-1))),
		{Kind: -1}, {Kind: 4}, {Kind: math.MaxInt, Args: args}, {Kind: math.MinInt},
		chain(api.MaxSize+1, a("a")), chain(1000000, x(0)), endless(),
	}
}

// invalidBindings are bindings that are not valid: because of their Vars, of their terms, and of variables that depend on themselves.
func invalidBindings() [][]api.Binding {
	l := [][]api.Binding{
		{bind(-1, a("a"))}, {bind(math.MinInt64, a("a"))}, {bind(api.MaxVar+1, a("a"))}, {bind(math.MaxInt64, a("a"))}, {bind(-1, a("a")), bind(0, a("a"))}, {bind(0, a("a")), bind(api.MaxVar+1, a("a"))},
		{bind(1, a("a")), bind(1, a("a"))}, {bind(1, a("a")), bind(1, a("b"))}, {bind(2, a("a")), bind(1, a("a"))}, {bind(0, a("a")), bind(2, a("a")), bind(1, a("a"))}, {bind(3, a("a")), bind(4, a("a")), bind(4, x(9))},
		{bind(0, x(0))}, {bind(api.MaxVar, x(api.MaxVar))}, {bind(3, s("f", x(3)))}, {bind(3, s("f", a("a"), s("g", x(4), x(3))))}, {bind(0, x(1)), bind(1, x(0))}, {bind(0, s("f", x(1))), bind(1, s("g", x(0)))},
		{bind(0, x(1)), bind(1, a("a")), bind(2, x(2))}, list(0, x(1), s("f", x(3), x(2)), a("a"), s("g", x(5)), a("b"), s("h", i(1), x(1))), list(0, x(1), x(2), x(3), x(1)), list(0, x(3), x(0), x(1), x(2)),
		append(steps(0, 5000, wrapped), bind(5000, x(0))), append(steps(0, 5000, same), bind(5000, x(4999))), append(steps(0, 100, twice), bind(100, s("f", x(50)))),
	}
	for _, t := range invalid() {
		l = append(l, list(0, t), list(0, a("a"), s("f", t), x(5)), list(0, t, t), append(steps(0, 50, same), bind(50, t)))
	}
	return l
}

// small returns a term of few nodes, with these variables.
func small(r *rand.Rand, variables []int64, depth int) api.Term {
	switch kind := r.Intn(9); {
	case kind < 4 && len(variables) > 0:
		return x(variables[r.Intn(len(variables))])
	case kind < 5:
		return i(r.Int63n(2))
	case kind < 6 || depth == 0:
		return a([]string{"a", "b", ""}[r.Intn(3)])
	}
	args := make([]api.Term, 1+r.Intn(2))
	for k := range args {
		args[k] = small(r, variables, depth-1)
	}
	return s([]string{"f", "f", "a"}[r.Intn(3)], args...)
}

// someVars are the variables of random terms.
func someVars() []int64 { return []int64{0, 1, 2, 3, 7, api.MaxVar} }

// smallBindings returns valid bindings of some of the variables; a variable is bound to a term of those after it in random order.
func smallBindings(r *rand.Rand) []api.Binding {
	var l []api.Binding
	order := someVars()
	r.Shuffle(len(order), func(p, q int) { order[p], order[q] = order[q], order[p] })
	for k, v := range order {
		if r.Intn(2) == 0 {
			l = append(l, bind(v, small(r, order[k+1:], 2)))
		}
	}
	slices.SortFunc(l, func(p, q api.Binding) int { return int(p.Var - q.Var) })
	return l
}

// nodes returns the nodes of a term from left to right.
func nodes(t api.Term) []api.Term {
	l := []api.Term{t}
	for _, arg := range t.Args {
		l = append(l, nodes(arg)...)
	}
	return l
}

// contains reports whether a variable is a node of a term.
func contains(t api.Term, v int64) bool {
	return slices.ContainsFunc(nodes(t), func(node api.Term) bool { return node.Kind == api.KindVar && node.N == v })
}

// replaced returns a term in which what is bound in a map is replaced, and, if again, also within the terms put in.
func replaced(bound map[int64]api.Term, t api.Term, again bool) api.Term {
	if to, ok := bound[t.N]; t.Kind == api.KindVar && ok {
		if again {
			return replaced(bound, to, again)
		}
		return to
	}
	r := api.Term{Kind: t.Kind, N: t.N, Name: t.Name}
	for _, arg := range t.Args {
		r.Args = append(r.Args, replaced(bound, arg, again))
	}
	return r
}

// mapped returns bindings as a map.
func mapped(l []api.Binding) map[int64]api.Term {
	m := map[int64]api.Term{}
	for _, b := range l {
		m[b.Var] = b.To
	}
	return m
}

// listed returns a map as bindings.
func listed(m map[int64]api.Term) []api.Binding {
	var l []api.Binding
	for v, to := range m {
		l = append(l, bind(v, to))
	}
	slices.SortFunc(l, func(p, q api.Binding) int { return int(p.Var - q.Var) })
	return l
}

// plus returns bindings with further ones.
func plus(l []api.Binding, more ...api.Binding) []api.Binding {
	return listed(mapped(slices.Concat(l, more)))
}

// equal compares terms that do not contain themselves, node by node.
func equal(p, q api.Term) bool {
	return p.Kind == q.Kind && p.N == q.N && p.Name == q.Name && slices.EqualFunc(p.Args, q.Args, equal)
}

func equalBindings(p, q []api.Binding) bool {
	return slices.EqualFunc(p, q, func(b, c api.Binding) bool { return b.Var == c.Var && equal(b.To, c.To) })
}

func isZero(t api.Term) bool { return equal(t, api.Term{}) }

// text shows the start of a valid term, texts that of bindings.
func text(t api.Term) string { return fmt.Sprintf("%.300s", fmt.Sprint(term.Clone(t))) }

func texts(l []api.Binding) string { return fmt.Sprintf("%.600s", fmt.Sprint(l)) }

// check compares a term that was returned with the one that is wanted.
func check(t *testing.T, call string, got, want api.Term) {
	t.Helper()
	if !equal(got, want) {
		t.Errorf("%s is %s, not %s", call, text(got), text(want))
	}
}
