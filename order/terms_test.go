package order

import (
	"fmt"
	"math"
	"math/rand"
	"slices"
	"strings"
	"testing"

	"hornbeam/api"
	"hornbeam/term"
)

func x(n int64) api.Term { return term.Var(n) }

func i(n int64) api.Term { return term.Int(n) }

func a(name string) api.Term { return term.Atom(name) }

func s(name string, args ...api.Term) api.Term { return term.Struct(name, args...) }

// pair returns Key-Value.
func pair(key, value api.Term) api.Term { return s("-", key, value) }

// longest is a name of MaxName bytes that ends with last.
func longest(last string) string { return strings.Repeat("n", api.MaxName-len(last)) + last }

// chain returns a structure of one argument around a structure of one argument, and so on, of n nodes; the innermost one is t.
func chain(n int, t api.Term) api.Term {
	for range n - 1 {
		t = api.Term{Kind: api.KindStruct, Name: "c", Args: []api.Term{t}}
	}
	return t
}

// endless returns a term that contains itself.
func endless() api.Term {
	args := make([]api.Term, 2)
	args[0] = api.Term{Kind: api.KindStruct, Name: "e", Args: args}
	args[1] = args[0]
	return args[0]
}

// invalid are terms that are not valid.
func invalid() []api.Term {
	args := []api.Term{a("a")}
	return []api.Term{
		{N: -1}, {N: api.MaxVar + 1}, {Name: "a"}, {Args: args},
		{Kind: api.KindInt, Name: "1"}, {Kind: api.KindAtom, Name: "a", N: 1}, {Kind: api.KindAtom, Name: longest("") + "n"},
		{Kind: api.KindStruct, Name: "f"}, {Kind: api.KindStruct, Name: "f", N: 1, Args: args}, {Kind: api.KindStruct, Name: "f", Args: make([]api.Term, api.MaxArity+1)},
		{Kind: api.KindStruct, Name: "f", Args: []api.Term{{N: -1}}}, {Kind: api.KindStruct, Name: "-", Args: []api.Term{a("a"), {Kind: 4}}},
		{Kind: -1}, {Kind: 4}, {Kind: 4, Name: "f", Args: args}, {Kind: math.MaxInt}, {Kind: math.MinInt},
		chain(2001, a("a")), chain(1000000, a("a")), endless(),
	}
}

// ascending are terms in the order of the chapter, no two of which are identical.
func ascending() []api.Term {
	return []api.Term{
		x(0), x(1), x(2), x(10), x(1 << 32), x(api.MaxVar - 1), x(api.MaxVar),
		i(math.MinInt64), i(math.MinInt64 + 1), i(-1 << 33), i(-10), i(-9), i(-1), i(0), i(1), i(9), i(10), i(1 << 32), i(api.MaxVar + 1), i(math.MaxInt64),
		a(""), a("\x00"), a("\x00\x00"), a("-"), a("."), a("10"), a("9"), a("A"), a("Z"), a("[]"), a("_"), a("a"), a("a\x00"), a("aZ"), a("aa"), a("ab"), a("b"),
		a(longest("m")), a(longest("")), a(longest("o")), a("z"), a("zzz"), a("\x7f"), a("\x80"), a("\xc3\xa4"), a("\xff"), a("\xffa"),
		s("", x(0)), s("a", x(0)), s("a", x(1)), s("a", i(-1)), s("a", i(0)), s("a", a("z")), s("a", s("a", x(0))), s("a", s("a", a("a"))), s("a", s("b", x(0))), s("a", s("a", x(0), x(0))),
		s("aa", x(0)), s("b", x(0)), chain(5, x(1)), chain(2000, x(0)), chain(2000, x(1)), chain(2000, a("a")), chain(1998, s("c", x(0), x(0))), s("f", a("b")), s("g", a("a")), s(longest(""), x(0)), s("z", a("z")), s("\xff", a("z")),
		s("-", a("a"), i(2)), s(".", a("a"), a("[]")), s(".", a("a"), s(".", a("a"), a("[]"))), s(".", a("b"), a("[]")),
		s("f", x(0), a("b")), s("f", x(1), a("a")), s("f", i(7), s("g", a("a"))), s("f", i(8), x(0)), s("f", a("a"), x(1)), s("f", a("a"), a("b")), s("f", a("b"), a("a")), s("f", s("z", x(0)), a("a")), s("f", s("a", x(0), x(0)), a("a")),
		s("A", x(0), x(0), x(0)), s("a", x(0), x(0), x(1)), s("a", x(0), x(1), x(0)), s("a", x(1), x(0), x(0)), s("f", a("a"), s("g", a("b"), a("c")), a("a")), s("f", a("a"), s("g", a("c"), a("a")), a("a")),
		s("a", x(0), x(0), x(0), x(0)), s("a", x(0), x(0), x(0), x(0), x(0)), s("a", x(0), x(0), x(0), x(0), x(0), x(0)), s("a", x(0), x(0), x(0), x(0), x(0), x(0), x(0)),
		s("a", x(0), x(0), x(0), x(0), x(0), x(0), x(0), x(0)), s("a", x(0), x(0), x(0), x(0), x(0), x(0), x(0), x(1)), s("a", x(0), x(0), x(0), x(0), x(0), x(0), x(0), i(0)),
	}
}

// small returns a term of few nodes, variables, numbers, names and arities.
func small(r *rand.Rand, depth int) api.Term {
	switch kind := r.Intn(8); {
	case kind < 2 || depth == 0 && kind > 4:
		return x(r.Int63n(3))
	case kind == 2:
		return i(r.Int63n(3) - 1)
	case kind < 5:
		return a([]string{"a", "b", "ab", "[]"}[r.Intn(4)])
	}
	args := make([]api.Term, 1+r.Intn(3))
	for k := range args {
		args[k] = small(r, depth-1)
	}
	return s([]string{"f", "g", "fg", "-"}[r.Intn(4)], args...)
}

// quick are those of the ascending terms that are compared quickly.
func quick() []api.Term {
	return slices.DeleteFunc(ascending(), func(t api.Term) bool { return term.Size(t) > 20 })
}

// samples are valid terms: the quick ones, and small ones, of which some are identical.
func samples() []api.Term {
	l, r := quick(), rand.New(rand.NewSource(4))
	for range 150 {
		l = append(l, small(r, r.Intn(4)))
	}
	return l
}

// someOf returns n terms of a list, in random order; some may be the same.
func someOf(r *rand.Rand, l []api.Term, n int) []api.Term {
	some := make([]api.Term, n)
	for k := range some {
		some[k] = l[r.Intn(len(l))]
	}
	return some
}

// byTheChapter compares valid terms as the chapter's definition says: -1, 0 or 1.
func byTheChapter(p, q api.Term) int {
	switch {
	case p.Kind != q.Kind:
		return sign(kindByTheChapter(p) < kindByTheChapter(q))
	case p.Kind == api.KindVar || p.Kind == api.KindInt:
		if p.N == q.N {
			return 0
		}
		return sign(p.N < q.N)
	case len(p.Args) != len(q.Args):
		return sign(len(p.Args) < len(q.Args))
	case p.Name != q.Name:
		return sign(nameByTheChapter(p.Name, q.Name))
	}
	for k := range p.Args {
		if !term.Same(p.Args[k], q.Args[k]) {
			return byTheChapter(p.Args[k], q.Args[k])
		}
	}
	return 0
}

func kindByTheChapter(t api.Term) int {
	return strings.IndexByte("vias", map[int]byte{api.KindVar: 'v', api.KindInt: 'i', api.KindAtom: 'a', api.KindStruct: 's'}[t.Kind])
}

// nameByTheChapter reports whether a name comes before a different one.
func nameByTheChapter(p, q string) bool {
	for k := 0; k < len(p) && k < len(q); k++ {
		if p[k] != q[k] {
			return p[k] < q[k]
		}
	}
	return len(p) < len(q)
}

func sign(before bool) int {
	if before {
		return -1
	}
	return 1
}

// text shows the start of a valid term.
func text(t api.Term) string { return fmt.Sprintf("%.200s", fmt.Sprint(term.Clone(t))) }

// texts shows a list of terms.
func texts(l []api.Term) string {
	var all []string
	for _, t := range l {
		all = append(all, text(t))
	}
	return strings.Join(all, ", ")
}

// sameList reports whether two lists have identical elements.
func sameList(l, m []api.Term) bool {
	if len(l) != len(m) {
		return false
	}
	for k := range l {
		if !term.Same(l[k], m[k]) {
			return false
		}
	}
	return true
}

// check compares a list that was returned without an error with the one that is wanted.
func check(t *testing.T, call string, got []api.Term, e api.Errno, want []api.Term) {
	t.Helper()
	if e != api.OK || !sameList(got, want) {
		t.Errorf("%s is %s (%d), not %s", call, texts(got), e, texts(want))
	}
}
