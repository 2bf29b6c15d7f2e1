package flags

import (
	"fmt"
	"math"
	"slices"
	"strconv"
	"strings"
	"testing"

	"hornbeam/api"
	"hornbeam/ops"
	"hornbeam/term"
)

// The terms of the tests are written as literals, so that a term that is not valid can be an argument, too.

func x(n int64) api.Term { return api.Term{Kind: api.KindVar, N: n} }

func i(n int64) api.Term { return api.Term{Kind: api.KindInt, N: n} }

func a(name string) api.Term { return api.Term{Kind: api.KindAtom, Name: name} }

func s(name string, args ...api.Term) api.Term {
	return api.Term{Kind: api.KindStruct, Name: name, Args: args}
}

// list returns a list of terms with a tail.
func list(tail api.Term, l ...api.Term) api.Term {
	for _, element := range slices.Backward(l) {
		tail = s(".", element, tail)
	}
	return tail
}

// chain returns a structure of one argument around a structure of one argument, and so on, of n nodes; the innermost one is t.
func chain(n int, t api.Term) api.Term {
	for range n - 1 {
		t = s("c", t)
	}
	return t
}

// endless returns a term that contains itself.
func endless(name string) api.Term {
	args := []api.Term{a("a"), {}}
	args[1] = s(name, args...)
	return args[1]
}

// longest is a name of MaxName bytes, tooLong one of a byte more.
func longest() string { return strings.Repeat("n", api.MaxName) }

func tooLong() string { return longest() + "n" }

// invalid are terms that are not valid.
func invalid() []api.Term {
	args := []api.Term{a("on"), a("[]")}
	return []api.Term{
		x(-1), x(api.MaxVar + 1), {Name: "on"}, {Kind: api.KindInt, N: 1, Name: "on"}, {Kind: api.KindAtom, Name: "on", N: 1}, {Kind: api.KindAtom, Name: "on", Args: args}, a(tooLong()),
		s("f"), {Kind: api.KindStruct, Name: "op", N: 1, Args: args}, s("f", make([]api.Term, api.MaxArity+1)...), {Kind: -1}, {Kind: 4, Name: "on"}, {Kind: 9}, {Kind: math.MaxInt},
		s("f", x(-1)), list(a("[]"), a("a"), a(tooLong())), list(x(-1), a("a")), chain(api.MaxSize+1, x(0)), list(a("[]"), slices.Repeat([]api.Term{a("a")}, 1000)...), endless("."), endless("op"),
	}
}

// equal compares terms that do not contain themselves, node by node.
func equal(p, q api.Term) bool {
	return p.Kind == q.Kind && p.N == q.N && p.Name == q.Name && slices.EqualFunc(p.Args, q.Args, equal)
}

func equalSyntax(p, q api.Syntax) bool {
	return p.Flags == q.Flags && slices.Equal(p.Ops, q.Ops) && slices.Equal(p.Conv, q.Conv)
}

// text shows the start of a valid term.
func text(t api.Term) string { return fmt.Sprintf("%.200s", fmt.Sprint(term.Clone(t))) }

func op(prec, typ int, name string) api.Op {
	return api.Op{Name: name, Type: typ, Prec: prec}
}

// allFlags are all flags that are valid.
func allFlags() []api.Flags {
	var l []api.Flags
	for _, quotes := range []int{api.QuotesCodes, api.QuotesChars, api.QuotesAtom} {
		for _, unknown := range []int{api.UnknownError, api.UnknownFail} {
			for bits := range 4 {
				l = append(l, api.Flags{Quotes: quotes, Unknown: unknown, Conversion: bits&1 != 0, Debug: bits&2 != 0})
			}
		}
	}
	return l
}

// wrongFlags are flags that are not valid; some would be if their numbers were cut to fewer bits.
func wrongFlags() []api.Flags {
	l := []api.Flags{{}, {Conversion: true, Debug: true}}
	for _, wrong := range []int{0, -1, 4, 256 + 1, 1<<32 + 1, math.MinInt, math.MinInt + 1, math.MaxInt} {
		l = append(l, api.Flags{Quotes: wrong, Unknown: 1}, api.Flags{Quotes: wrong, Unknown: 2, Debug: true}, api.Flags{Quotes: 1, Unknown: wrong}, api.Flags{Quotes: 3, Unknown: wrong, Conversion: true})
	}
	return append(l, api.Flags{Quotes: 1, Unknown: 3}, api.Flags{Quotes: 3, Unknown: 3})
}

// crowded is a table of n operators of all types.
func crowded(n int) []api.Op {
	var l []api.Op
	for k := range n {
		l = append(l, op(1+k*12, 1+k%7, "n"+strconv.Itoa(100+k)))
	}
	return l
}

// turned is the conversion table that maps each character to another one.
func turned() []api.Pair {
	var l []api.Pair
	for c := range 256 {
		l = append(l, api.Pair{From: c, To: 255 - c})
	}
	return l
}

// syntaxes are valid syntaxes.
func syntaxes() []api.Syntax {
	changed := []api.Op{op(200, api.FX, ""), op(1000, api.XFY, ","), op(1, api.FX, "a"), op(1200, api.XFX, "a"), op(300, api.FY, "b"), op(400, api.YF, "b"), op(700, api.XF, "in"), op(900, api.YFX, "is"), op(1001, api.XFY, "|"), op(2, api.FY, "\xff")}
	pairs := []api.Pair{{From: 0, To: 255}, {From: 97, To: 98}, {From: 98, To: 97}, {From: 255, To: 200}}
	return []api.Syntax{
		Start(),
		{Flags: Default()},
		{Ops: changed, Flags: api.Flags{Quotes: 3, Unknown: 2, Conversion: true, Debug: true}, Conv: pairs},
		{Ops: crowded(api.MaxOps), Flags: api.Flags{Quotes: 2, Unknown: 1, Debug: true}, Conv: turned()},
		{Ops: crowded(api.MaxOps - 1), Flags: api.Flags{Quotes: 2, Unknown: 2, Conversion: true}, Conv: []api.Pair{{From: 98, To: 195}}},
	}
}

// wrongSyntaxes are syntaxes of which one part is not valid.
func wrongSyntaxes() []api.Syntax {
	var l []api.Syntax
	for _, table := range [][]api.Op{{{}}, crowded(api.MaxOps + 1), {op(0, api.FY, "a")}, {op(1201, api.FY, "a")}, {op(200, 8, "a")}, {op(200, api.FY, "b"), op(200, api.FY, "a")}, {op(200, api.FY, "[]")}, append(ops.Default(), op(200, api.FY, "a"))} {
		l = append(l, api.Syntax{Ops: table, Flags: Default()})
	}
	for _, f := range wrongFlags() {
		l = append(l, api.Syntax{Ops: ops.Default(), Flags: f})
	}
	for _, table := range [][]api.Pair{{{}}, {{From: 1, To: 1}}, {{From: -1, To: 1}}, {{From: 1, To: 256}}, {{From: 2, To: 1}, {From: 1, To: 2}}, append(turned(), api.Pair{From: 256, To: 1})} {
		l = append(l, api.Syntax{Ops: ops.Default(), Flags: Default(), Conv: table})
	}
	return append(l, api.Syntax{})
}

// outcome is what Call returns.
type outcome struct {
	syntax  api.Syntax
	answers []api.Term
	ball    api.Term
	e       api.Errno
}

func called(syntax api.Syntax, goal api.Term) outcome {
	var got outcome
	got.syntax, got.answers, got.ball, got.e = Call(syntax, goal)
	return got
}

// one is the outcome with one answer; all with several.
func one(syntax api.Syntax, answer api.Term) outcome {
	return all(syntax, []api.Term{answer})
}

func all(syntax api.Syntax, answers []api.Term) outcome {
	return outcome{syntax: syntax, answers: answers}
}

// raised is the outcome with a ball whose formal has this name and these arguments; '...' stands in the place of the last one if the ball would be too large.
func raised(name string, args ...api.Term) outcome {
	formal := a(name)
	if len(args) > 0 {
		if count(s("error", s(name, args...), a("[]"))) > 2000 {
			args = append(slices.Clone(args[:len(args)-1]), a("..."))
		}
		formal = s(name, args...)
	}
	return outcome{ball: s("error", formal, a("[]")), e: api.ErrBall}
}

// count returns the number of nodes of a term.
func count(t api.Term) int {
	n := 1
	for _, arg := range t.Args {
		n += count(arg)
	}
	return n
}

// checkCall compares the outcome of a call with the one that is wanted.
func checkCall(t *testing.T, syntax api.Syntax, goal api.Term, want outcome) {
	t.Helper()
	got := called(syntax, goal)
	if got.e != want.e || !equal(got.ball, want.ball) || !slices.EqualFunc(got.answers, want.answers, equal) || !equalSyntax(got.syntax, want.syntax) {
		t.Errorf("Call(%.99s, %s) is %.999s, not %.999s", fmt.Sprint(syntax), text(goal), fmt.Sprint(got), fmt.Sprint(want))
	}
}
