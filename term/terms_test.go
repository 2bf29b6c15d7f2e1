package term

import (
	"fmt"
	"math"
	"math/rand"
	"strings"
	"testing"

	"hornbeam/api"
)

// The terms of the tests are written as literals, without the functions of the package.

func x(n int64) api.Term { return api.Term{Kind: api.KindVar, N: n} }

func i(n int64) api.Term { return api.Term{Kind: api.KindInt, N: n} }

func a(name string) api.Term { return api.Term{Kind: api.KindAtom, Name: name} }

func s(name string, args ...api.Term) api.Term {
	return api.Term{Kind: api.KindStruct, Name: name, Args: args}
}

// chain returns a structure of one argument around a structure of one argument, and so on, of n nodes; the innermost one is t.
func chain(n int, t api.Term) api.Term {
	for range n - 1 {
		t = s("c", t)
	}
	return t
}

// flat returns a list of n integers, which has 2 * n + 1 nodes.
func flat(n int) api.Term {
	t := a("[]")
	for range n {
		t = s(".", i(1), t)
	}
	return t
}

// doubled returns a term of 2^(n+1) - 1 nodes, which share memory.
func doubled(n int, t api.Term) api.Term {
	for range n {
		args := []api.Term{t, t}
		t = api.Term{Kind: api.KindStruct, Name: "d", Args: args}
	}
	return t
}

// endless returns a term that contains itself.
func endless(kind int) api.Term {
	args := make([]api.Term, 2)
	args[0] = api.Term{Kind: kind, Args: args}
	args[1] = args[0]
	return args[0]
}

// longest is a name of MaxName bytes.
func longest() string { return strings.Repeat("n", api.MaxName) }

// invalid are terms that are not valid: the faulty nodes as such, as the last argument, and within an argument; and terms of which only a part can be visited, so that their tests are those of R1, too.
func invalid() []api.Term {
	var l []api.Term
	for _, node := range faulty() {
		l = append(l, node, s("f", a("a"), node), s("f", s("g", x(0), s("h", node)), x(1)))
	}
	return append(l, flat(1000), chain(2001, x(0)), doubled(40, a("a")), doubled(10, a("a")), chain(1000000, x(0)),
		endless(api.KindStruct), endless(api.KindAtom), endless(api.KindVar), endless(9))
}

// faulty are nodes that are not valid.
func faulty() []api.Term {
	args := []api.Term{a("a")}
	return []api.Term{
		x(-1), x(math.MinInt64), x(api.MaxVar + 1), x(math.MaxInt64),
		{Kind: api.KindVar, Name: "a"}, {Kind: api.KindVar, Args: args},
		{Kind: api.KindInt, Name: "1"}, {Kind: api.KindInt, Args: args},
		{Kind: api.KindAtom, Name: "a", N: 1}, {Kind: api.KindAtom, Name: "a", N: -1}, {Kind: api.KindAtom, Name: "a", Args: args},
		a(longest() + "n"), a(strings.Repeat("\xff", 200)),
		s("f"), s(longest()+"n", x(0)), {Kind: api.KindStruct, Name: "f", N: 1, Args: args}, {Kind: api.KindStruct, Name: "f", N: -1, Args: args},
		s("f", make([]api.Term, api.MaxArity+1)...), s("f", make([]api.Term, 1000000)...),
		{Kind: -1}, {Kind: 4}, {Kind: 4, Name: "f", Args: args}, {Kind: math.MaxInt}, {Kind: math.MinInt},
	}
}

// valid are valid terms, no two of which are identical.
func valid() []api.Term {
	return []api.Term{
		x(0), x(1), x(7), x(api.MaxVar), x(api.MaxVar - 1),
		i(0), i(1), i(-1), i(math.MaxInt64), i(math.MinInt64),
		a(""), a("a"), a("b"), a("ab"), a("1"), a("[]"), a("."), a("\x00"), a("\xff"), a(longest()), a(longest()[1:]),
		s("", x(0)), s("f", x(0)), s("f", x(1)), s("f", i(0)), s("f", i(1)), s("f", a("a")), s("f", a("b")), s("g", a("a")), s(longest(), a("a")),
		s("f", x(0), x(0)), s("f", x(0), x(1)), s("f", x(1), x(0)), s("f", x(1), x(1)), s("f", x(5), s("g", x(2), x(5))),
		s("f", a("a"), a("b")), s("f", a("b"), a("a")), s("f", s("f", a("a"))), s("f", s("f", a("b"))), s("f", s("f", s("f", a("a")))),
		s("f", x(1), x(2), x(3), x(4), x(5), x(6), x(7), x(8)), s("f", x(1), x(2), x(3), x(4), x(5), x(6), x(7), x(9)), s("f", x(1), x(2), x(3), x(4), x(5), x(6), x(7)),
		s(".", a("a"), a("[]")), s(".", a("a"), s(".", a("b"), a("[]"))), s(".", a("a"), s(".", a("b"), x(0))), s(".", a("a"), s(".", a("b"))), s(".", a("a"), s("|", a("b"), a("[]"))),
		s(".", s(".", x(0), x(1)), s(".", x(2), x(3), x(4))), s(".", a("a"), a("b"), a("[]")),
		flat(999), s("f", flat(999)), chain(2000, x(3)), chain(2000, a("a")), chain(1999, x(3)), doubled(9, x(4)), doubled(9, a("a")),
	}
}

// small returns a term of few nodes, variables, names and arities.
func small(r *rand.Rand, depth int) api.Term {
	switch kind := r.Intn(8); {
	case kind < 3 || depth == 0 && kind > 4:
		return x(r.Int63n(4))
	case kind == 3:
		return i(r.Int63n(3) - 1)
	case kind == 4:
		return a([]string{"a", "[]", "."}[r.Intn(3)])
	}
	args := make([]api.Term, 1+r.Intn(3))
	for k := range args {
		args[k] = small(r, depth-1)
	}
	return s([]string{".", "f"}[r.Intn(2)], args...)
}

// samples are valid terms: the fixed ones, and many small ones.
func samples() []api.Term {
	l, r := valid(), rand.New(rand.NewSource(3))
	for range 300 {
		l = append(l, small(r, 1+r.Intn(4)))
	}
	return l
}

// nodes returns the nodes of a term from left to right.
func nodes(t api.Term) []api.Term {
	var l []api.Term
	var visit func(t api.Term)
	visit = func(t api.Term) {
		l = append(l, t)
		for _, arg := range t.Args {
			visit(arg)
		}
	}
	visit(t)
	return l
}

// equal compares valid terms without the functions of the package.
func equal(p, q api.Term) bool {
	if p.Kind != q.Kind || p.N != q.N || p.Name != q.Name || len(p.Args) != len(q.Args) {
		return false
	}
	for k := range p.Args {
		if !equal(p.Args[k], q.Args[k]) {
			return false
		}
	}
	return true
}

func isZero(t api.Term) bool { return equal(t, api.Term{}) }

// text shows a term, valid or not; of a large one it shows the first nodes.
func text(t api.Term) string {
	var l strings.Builder
	left := 30
	var show func(t api.Term)
	show = func(t api.Term) {
		if left--; left < 0 {
			return
		}
		fmt.Fprintf(&l, "{%d %d %.20q", t.Kind, t.N, t.Name)
		for k := 0; k < len(t.Args) && left > 0; k++ {
			show(t.Args[k])
		}
		l.WriteString("}")
	}
	show(t)
	return l.String()
}

// check compares a result with the term that is wanted.
func check(t *testing.T, call string, got, want api.Term) {
	t.Helper()
	if !equal(got, want) {
		t.Errorf("%s is %s, not %s", call, text(got), text(want))
	}
}
