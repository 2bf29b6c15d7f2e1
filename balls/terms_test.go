package balls

import (
	"fmt"
	"math"
	"math/rand"
	"slices"
	"strings"
	"testing"

	"hornbeam/api"
	"hornbeam/term"
)

// The terms of the tests are written as literals, so that a term that is not valid can be an argument, too.

func x(n int64) api.Term { return api.Term{Kind: api.KindVar, N: n} }

func i(n int64) api.Term { return api.Term{Kind: api.KindInt, N: n} }

func a(name string) api.Term { return api.Term{Kind: api.KindAtom, Name: name} }

func s(name string, args ...api.Term) api.Term {
	return api.Term{Kind: api.KindStruct, Name: name, Args: args}
}

// list returns a list of terms with a tail.
func list(tail api.Term, l ...api.Term) api.Term {
	for _, element := range slices.Backward(l) {
		tail = s(".", element, tail)
	}
	return tail
}

// ones returns n integers.
func ones(n int) []api.Term { return slices.Repeat([]api.Term{i(1)}, n) }

// chain returns a structure of one argument around a structure of one argument, and so on, of n nodes; the innermost one is t.
func chain(n int, t api.Term) api.Term {
	for range n - 1 {
		t = s("c", t)
	}
	return t
}

// endless returns a term that contains itself.
func endless(name string) api.Term {
	args := []api.Term{a("a"), {}}
	args[1] = s(name, args...)
	return args[1]
}

// longest is a name of MaxName bytes, tooLong one of a byte more.
func longest() string { return strings.Repeat("n", api.MaxName) }

func tooLong() string { return longest() + "n" }

// ball returns error(Formal, []).
func ball(formal api.Term) api.Term { return s("error", formal, a("[]")) }

// inst, typed and dots are balls, the last one with '...' in the place of the culprit.
func inst() api.Term { return ball(a("instantiation_error")) }

func typed(kind string, culprit api.Term) api.Term {
	return ball(s("type_error", a(kind), culprit))
}

func dots(kind string) api.Term { return typed(kind, a("...")) }

// faulty are nodes that are not valid.
func faulty() []api.Term {
	args := []api.Term{a("a"), a("[]")}
	return []api.Term{
		x(-1), x(math.MinInt64), x(api.MaxVar + 1), {Name: "a"}, {Args: args}, {Kind: api.KindInt, Name: "1"}, {Kind: api.KindInt, Args: args},
		{Kind: api.KindAtom, Name: "a", N: 1}, {Kind: api.KindAtom, Name: "[]", N: 1}, {Kind: api.KindAtom, Name: "a", Args: args}, a(tooLong()),
		s("f"), s("."), s(tooLong(), x(0)), {Kind: api.KindStruct, Name: ".", N: 1, Args: args}, {Kind: api.KindStruct, Name: "/", N: 1, Args: []api.Term{a("f"), i(2)}}, {Kind: api.KindStruct, Name: "error", N: -1, Args: args}, s("f", make([]api.Term, api.MaxArity+1)...),
		{Kind: -1}, {Kind: 4}, {Kind: 4, Name: ".", Args: args}, {Kind: math.MaxInt}, {Kind: math.MinInt},
	}
}

// invalid are terms that are not valid: faulty nodes as such and within others, and terms that are too large or contain themselves.
func invalid() []api.Term {
	var l []api.Term
	for _, node := range faulty() {
		l = append(l, node, s("f", x(0), s("g", node)), list(a("[]"), a("a"), node), list(node, a("a"), a("b")), list(x(0), node, a("b")), s("/", node, i(2)), s("/", a("f"), node), s("error", a("a"), node), s("error", node, a("[]")))
	}
	return append(l, chain(api.MaxSize+1, x(0)), chain(1000000, a("a")), list(a("[]"), ones(1000)...), list(x(0), ones(1000000)...), s("/", chain(1999, x(0)), i(2)), s("error", chain(1999, x(0)), x(1)), endless("f"), endless("."), endless("/"), endless("error"))
}

// samples are valid terms: of all kinds, with the names that the package knows, and of the greatest sizes; and small ones, of which some are the same.
func samples() []api.Term {
	l := []api.Term{
		x(0), x(7), x(api.MaxVar), i(0), i(8), i(9), i(-1), i(255), i(256), i(math.MaxInt64), i(math.MinInt64), a(""), a("a"), a("[]"), a("."), a("/"), a("error"), a("..."), a("\x00"), a("\xff"), a("ab"), a("\xc3\xa4"), a(longest()),
		s("f", x(0)), s("[]", x(0)), s("a", x(0)), s(".", a("a")), s(".", a("a"), a("[]"), a("[]")), s("/", a("f")), s("/", a("f"), i(2), i(2)), s("error", a("a")), s("error", a("a"), x(0), x(1)), s(longest(), x(0), i(1), a("c"), x(0), x(4), x(5), x(6), x(7)),
		list(a("[]"), a("a"), x(0)), list(x(0), a("a"), i(1)), list(a("b"), a("a")), s("/", a("f"), i(2)), s("/", x(0), i(2)), s("/", a("f"), x(0)), s("error", x(0), s("f", x(1), x(0))),
	}
	for size := api.MaxSize - 6; size <= api.MaxSize; size++ {
		l = append(l, chain(size, x(3)), chain(size, a("a")), list(chain(size-1996, a("c")), ones(998)...), s("/", a("f"), chain(size-2, i(2))), s("error", chain(size-2, x(0)), a("[]")))
	}
	r := rand.New(rand.NewSource(6))
	for range 2000 {
		l = append(l, small(r, 1+r.Intn(4)))
	}
	return append(l, list(a("[]"), ones(999)...), list(x(0), ones(999)...), list(i(1), ones(999)...))
}

// small returns a term of few nodes; lists and indicators are frequent.
func small(r *rand.Rand, depth int) api.Term {
	switch kind := r.Intn(9); {
	case kind == 0:
		return x(r.Int63n(3))
	case kind == 1:
		return i(r.Int63n(12) - 1)
	case kind < 4 || depth == 0:
		return a([]string{"a", "[]", "ab", "."}[r.Intn(4)])
	case kind == 4:
		return s([]string{"f", "."}[r.Intn(2)], small(r, depth-1))
	}
	return s([]string{".", ".", "/", "error"}[r.Intn(4)], small(r, depth-1), small(r, depth-1))
}

// equal compares terms that do not contain themselves, node by node.
func equal(p, q api.Term) bool {
	return p.Kind == q.Kind && p.N == q.N && p.Name == q.Name && slices.EqualFunc(p.Args, q.Args, equal)
}

func isZero(t api.Term) bool { return equal(t, api.Term{}) }

// text shows the start of a valid term, texts those of several.
func text(t api.Term) string { return fmt.Sprintf("%.200s", fmt.Sprint(term.Clone(t))) }

func texts(l []api.Term) string {
	var all []string
	for _, t := range l {
		all = append(all, text(t))
	}
	return fmt.Sprintf("%.400s", strings.Join(all, ", "))
}

// checkTerm compares a term that was returned with the one that is wanted.
func checkTerm(t *testing.T, call string, got, want api.Term) {
	t.Helper()
	if !equal(got, want) {
		t.Errorf("%s is %s, not %s", call, text(got), text(want))
	}
}

// outcome is what a check returns; the value is a list of terms.
type outcome struct {
	value []api.Term
	ball  api.Term
	ok    bool
}

// pass and refuse return outcomes of checks.
func pass(value ...api.Term) outcome { return outcome{value: value, ok: true} }

func refuse(ball api.Term) outcome { return outcome{ball: ball} }

// allChecks are the checks of the package; where a check has not passed, the value is a list of the values that are not zero.
func allChecks() map[string]func(t api.Term) outcome {
	return map[string]func(t api.Term) outcome{
		"Atom": func(t api.Term) outcome {
			name, ball, ok := Atom(t)
			return outcome{present(ok || name != "", a(name)), ball, ok}
		},
		"Int": func(t api.Term) outcome {
			n, ball, ok := Int(t)
			return outcome{present(ok || n != 0, i(n)), ball, ok}
		},
		"Callable": func(t api.Term) outcome {
			ball, ok := Callable(t)
			return outcome{nil, ball, ok}
		},
		"Atomic": func(t api.Term) outcome {
			ball, ok := Atomic(t)
			return outcome{nil, ball, ok}
		},
		"List": func(t api.Term) outcome {
			l, ball, ok := List(t)
			return outcome{l, ball, ok}
		},
		"Char": func(t api.Term) outcome {
			c, ball, ok := Char(t)
			return outcome{present(ok || c != 0, i(int64(c))), ball, ok}
		},
		"Code": func(t api.Term) outcome {
			c, ball, ok := Code(t)
			return outcome{present(ok || c != 0, i(int64(c))), ball, ok}
		},
		"Indicator": func(t api.Term) outcome {
			name, arity, ball, ok := Indicator(t)
			return outcome{present(ok || name != "" || arity != 0, a(name), i(int64(arity))), ball, ok}
		},
	}
}

func present(is bool, value ...api.Term) []api.Term {
	if !is {
		return nil
	}
	return value
}

// checkCheck compares the outcome of a check of a term with the one that is wanted.
func checkCheck(t *testing.T, name string, u api.Term, want outcome) {
	t.Helper()
	got := allChecks()[name](u)
	if got.ok != want.ok || !equal(got.ball, want.ball) || !slices.EqualFunc(got.value, want.value, equal) {
		t.Errorf("%s(%s) is %s; %s; %v, not %s; %s; %v", name, text(u), texts(got.value), text(got.ball), got.ok, texts(want.value), text(want.ball), want.ok)
	}
}
