package balls

import (
	"math"
	"testing"

	"hornbeam/api"
	"hornbeam/term"
)

// P6.3: a term that is not valid is not distinguished any further.
func TestChecksOfInvalidTerms(t *testing.T) {
	all := invalid()
	for name, f := range allChecks() {
		for k, u := range all {
			if got := f(u); got.ok || !isZero(got.ball) || len(got.value) != 0 {
				t.Errorf("%s of term %d is %s; %s; %v", name, k, texts(got.value), text(got.ball), got.ok)
			}
		}
	}
}

// P6.3, P6.5, P6.6
func TestChecksOfVariables(t *testing.T) {
	for name := range allChecks() {
		for _, n := range []int64{0, 1, 47, 97, api.MaxVar} {
			checkCheck(t, name, x(n), refuse(inst()))
		}
	}
}

// P6.3
func TestChecksOfKinds(t *testing.T) {
	for _, u := range samples() {
		isAtom, isInt, isStruct := u.Kind == api.KindAtom, u.Kind == api.KindInt, u.Kind == api.KindStruct
		for _, c := range []struct {
			name, kind string
			passes     bool
			value      []api.Term
		}{
			{"Atom", "atom", isAtom, []api.Term{a(u.Name)}}, {"Int", "integer", isInt, []api.Term{i(u.N)}},
			{"Callable", "callable", isAtom || isStruct, nil}, {"Atomic", "atomic", isAtom || isInt, nil},
		} {
			switch {
			case u.Kind == api.KindVar:
				checkCheck(t, c.name, u, refuse(inst()))
			case c.passes:
				checkCheck(t, c.name, u, pass(c.value...))
			default:
				checkCheck(t, c.name, u, refuse(typedOrDots(c.kind, u)))
			}
		}
	}
}

// typedOrDots returns the ball for a culprit, which may be too large.
func typedOrDots(kind string, culprit api.Term) api.Term {
	if term.Size(typed(kind, culprit)) > api.MaxSize {
		return dots(kind)
	}
	return typed(kind, culprit)
}

// P6.3
func TestExamplesOfKinds(t *testing.T) {
	checkCheck(t, "Atom", a("abc"), pass(a("abc")))
	checkCheck(t, "Atom", i(3), refuse(typed("atom", i(3))))
	checkCheck(t, "Atom", s("a", x(0)), refuse(typed("atom", s("a", x(0)))))
	checkCheck(t, "Int", a("3"), refuse(typed("integer", a("3"))))
	checkCheck(t, "Int", i(math.MinInt64), pass(i(math.MinInt64)))
	checkCheck(t, "Callable", i(0), refuse(typed("callable", i(0))))
	checkCheck(t, "Callable", chain(api.MaxSize, x(0)), pass())
	checkCheck(t, "Atomic", chain(1996, x(0)), refuse(typed("atomic", chain(1996, x(0)))))
	checkCheck(t, "Atomic", chain(1997, x(0)), refuse(dots("atomic")))
}

// P6.4
func TestLists(t *testing.T) {
	partial := list(x(1), a("a"))
	for _, l := range [][]api.Term{nil, {a("a")}, {x(0)}, {a("[]")}, {partial, list(a("b"), a("a")), list(a("[]"), x(0))}, {x(3), i(1), s("f", x(3)), a(".")}, ones(999), {chain(1998, x(5))}} {
		checkCheck(t, "List", list(a("[]"), l...), pass(l...))
	}
	for _, l := range [][]api.Term{nil, {a("a")}, {x(1), i(3)}, {i(3), a("b"), list(a("b"), a("a"))}, ones(999)} {
		checkCheck(t, "List", list(x(1), l...), refuse(inst()))
	}
	for _, tail := range []api.Term{
		a("a"), a("."), a(""), a("[|]"), i(0), i(7), s("f", x(0)), s("[]", x(0)), s(".", a("a")), s(".", x(0)), s(".", a("a"), a("[]"), a("[]")), s(".", a("a"), x(0), x(0)),
		s("|", a("a"), a("[]")), s("[|]", a("a"), a("[]")), s("", a("a"), x(0)), s("f", list(a("[]"), a("a")), x(0)), s("-", a("a"), list(a("[]"), a("a"))),
	} {
		for _, l := range [][]api.Term{nil, {a("b")}, {x(0), partial}, {a("[]"), list(a("[]"), a("a"))}} {
			checkCheck(t, "List", list(tail, l...), refuse(typed("list", list(tail, l...))))
		}
	}
}

// P6.4: culprits of the greatest sizes.
func TestLargeTermsThatAreNoLists(t *testing.T) {
	whole := list(s("f", a("b")), ones(997)...)
	checkCheck(t, "List", whole, refuse(typed("list", whole)))
	checkCheck(t, "List", list(a("b"), ones(998)...), refuse(dots("list")))
	checkCheck(t, "List", list(a("b"), ones(999)...), refuse(dots("list")))
	checkCheck(t, "List", list(s("f", a("b")), ones(999)...), refuse(dots("list")))
}

// P6.4: the definitions of the document, on all samples.
func TestListsByTheirDefinition(t *testing.T) {
	var isList, isPartial func(u api.Term) bool
	isList = func(u api.Term) bool {
		return equal(u, a("[]")) || len(u.Args) == 2 && u.Name == "." && isList(u.Args[1])
	}
	isPartial = func(u api.Term) bool {
		return u.Kind == api.KindVar || len(u.Args) == 2 && u.Name == "." && isPartial(u.Args[1])
	}
	counts := map[string]int{}
	for _, u := range samples() {
		switch {
		case isPartial(u):
			counts["partial list"]++
			checkCheck(t, "List", u, refuse(inst()))
		case !isList(u):
			counts["no list"]++
			checkCheck(t, "List", u, refuse(typedOrDots("list", u)))
		default:
			counts["list"]++
			var l []api.Term
			for rest := u; len(rest.Args) == 2; rest = rest.Args[1] {
				l = append(l, rest.Args[0])
			}
			checkCheck(t, "List", u, pass(l...))
		}
	}
	for _, kind := range []string{"list", "partial list", "no list"} {
		if counts[kind] < 100 {
			t.Errorf("of kind %s: %d samples", kind, counts[kind])
		}
	}
}

// P6.5
func TestChars(t *testing.T) {
	for c := range 256 {
		name := string([]byte{byte(c)})
		checkCheck(t, "Char", a(name), pass(i(int64(c))))
		checkCheck(t, "Char", i(int64(c)), refuse(typed("character", i(int64(c)))))
		checkCheck(t, "Char", s(name, a(name)), refuse(typed("character", s(name, a(name)))))
	}
	for _, u := range []api.Term{a(""), a("ab"), a("aa"), a("\xc3\xa4"), a("[]"), a("\x00\x00"), a(longest()), i(-1), s("f", a("a")), list(a("[]"), a("a")), chain(1996, a("a"))} {
		checkCheck(t, "Char", u, refuse(typed("character", u)))
	}
	checkCheck(t, "Char", chain(1997, a("a")), refuse(dots("character")))
}

// P6.5
func TestCodes(t *testing.T) {
	for n := range int64(256) {
		checkCheck(t, "Code", i(n), pass(i(n)))
	}
	for _, n := range []int64{-1, -97, 256, 257, 1 << 16, 1<<32 + 97, -1<<32 + 97, 1<<63 - 256, math.MaxInt64, math.MinInt64} {
		checkCheck(t, "Code", i(n), refuse(ball(s("representation_error", a("character_code")))))
	}
	for _, u := range []api.Term{a("a"), a("97"), a(""), s("f", i(97)), list(a("[]"), i(97)), chain(1996, i(97))} {
		checkCheck(t, "Code", u, refuse(typed("integer", u)))
	}
	checkCheck(t, "Code", chain(1997, i(97)), refuse(dots("integer")))
}

// P6.6
func TestIndicators(t *testing.T) {
	for arity := range int64(api.MaxArity + 1) {
		for _, name := range []string{"f", "", "/", "[]", "a b", longest()} {
			checkCheck(t, "Indicator", s("/", a(name), i(arity)), pass(a(name), i(arity)))
		}
	}
	for _, u := range []api.Term{a("f"), a("/"), i(2), s("/", a("f")), s("/", x(0)), s("/", a("f"), i(2), i(3)), s("/", x(0), x(0), x(0)), s("//", a("f"), i(2)), s("", a("f"), i(2)), s(":", a("m"), s("/", a("f"), i(2))), s("f", x(0), x(1)), list(a("[]"), a("f"))} {
		checkCheck(t, "Indicator", u, refuse(typed("predicate_indicator", u)))
	}
	checkCheck(t, "Indicator", s("/", a("f"), x(0)), refuse(inst()))
	checkCheck(t, "Indicator", s("/", i(1), i(2)), refuse(typed("atom", i(1))))
	checkCheck(t, "Indicator", s("/", a("f"), i(9)), refuse(ball(s("representation_error", a("max_arity")))))
}

// P6.6: what is wrong with the name, and with the arity, in all combinations.
func TestFaultyIndicators(t *testing.T) {
	parts := []api.Term{
		x(0), x(5), a("f"), a(""), a("8"), a("[]"), s("f", x(0)), s("/", a("f"), i(2)), list(x(0), a("f")), i(-1), i(-2), i(0), i(1), i(8), i(9), i(10),
		i(math.MinInt64), i(math.MaxInt64), i(1<<32 + 2), i(-1<<32 + 2), i(1<<63 - 1<<32 + 8), i(api.MaxVar),
	}
	for _, name := range parts {
		for _, arity := range parts {
			u := s("/", name, arity)
			switch n := arity.N; {
			case name.Kind == api.KindVar || arity.Kind == api.KindVar:
				checkCheck(t, "Indicator", u, refuse(inst()))
			case name.Kind != api.KindAtom:
				checkCheck(t, "Indicator", u, refuse(typed("atom", name)))
			case arity.Kind != api.KindInt:
				checkCheck(t, "Indicator", u, refuse(typed("integer", arity)))
			case n < 0:
				checkCheck(t, "Indicator", u, refuse(ball(s("domain_error", a("not_less_than_zero"), arity))))
			case n > 8:
				checkCheck(t, "Indicator", u, refuse(ball(s("representation_error", a("max_arity")))))
			default:
				checkCheck(t, "Indicator", u, pass(name, arity))
			}
		}
	}
}

// P6.6: culprits of the greatest sizes.
func TestLargeTermsThatAreNoIndicators(t *testing.T) {
	large, larger := chain(1996, x(0)), chain(1997, x(0))
	for _, c := range []struct{ u, want api.Term }{
		{large, typed("predicate_indicator", large)}, {larger, dots("predicate_indicator")}, {chain(api.MaxSize, a("a")), dots("predicate_indicator")},
		{s("/", large, i(2)), typed("atom", large)}, {s("/", larger, i(2)), dots("atom")}, {s("/", larger, i(-1)), dots("atom")}, {s("/", larger, x(7)), inst()},
		{s("/", a("f"), large), typed("integer", large)}, {s("/", a("f"), larger), dots("integer")}, {s("/", i(1), larger), typed("atom", i(1))}, {s("/", x(7), larger), inst()},
	} {
		checkCheck(t, "Indicator", c.u, refuse(c.want))
	}
}
