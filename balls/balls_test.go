package balls

import (
	"math"
	"testing"

	"hornbeam/api"
)

// maker is a function of the package that has a culprit: its call with a culprit and a name for each kind and action, the formal, and the number of nodes of the error term beside those of the culprit.
type maker struct {
	call   func(name string, culprit api.Term) api.Term
	formal func(name string, culprit api.Term) api.Term
	nodes  int
}

func makers() map[string]maker {
	of := func(functor string) func(name string, culprit api.Term) api.Term {
		return func(name string, culprit api.Term) api.Term { return s(functor, a(name), culprit) }
	}
	return map[string]maker{
		"Uninst":                   {func(name string, c api.Term) api.Term { return Uninst(c) }, func(name string, c api.Term) api.Term { return s("uninstantiation_error", c) }, 3},
		"Type":                     {Type, of("type_error"), 4},
		"Domain":                   {Domain, of("domain_error"), 4},
		"Existence":                {Existence, of("existence_error"), 4},
		"Permission of an action":  {func(name string, c api.Term) api.Term { return Permission(name, "", c) }, func(name string, c api.Term) api.Term { return s("permission_error", a(name), a(""), c) }, 5},
		"Permission of a kind":     {func(name string, c api.Term) api.Term { return Permission("", name, c) }, func(name string, c api.Term) api.Term { return s("permission_error", a(""), a(name), c) }, 5},
		"Permission of both names": {func(name string, c api.Term) api.Term { return Permission(name, name, c) }, func(name string, c api.Term) api.Term { return s("permission_error", a(name), a(name), c) }, 5},
	}
}

func names() []string {
	return []string{"", "list", "a b", "...", "[]", "\x00\xff", longest(), longest()[1:]}
}

// P6.1
func TestCulprits(t *testing.T) {
	for call, m := range makers() {
		for _, name := range names() {
			for _, culprit := range []api.Term{x(0), x(api.MaxVar), i(0), i(math.MinInt64), a(""), a("a"), a("[]"), a("..."), a(longest()), s("f", x(4), x(0), x(4)), list(x(2), a("a")), inst()} {
				checkTerm(t, call, m.call(name, culprit), ball(m.formal(name, culprit)))
			}
		}
	}
	checkTerm(t, "Permission", Permission("modify", "static_procedure", s("/", a("f"), i(1))), ball(s("permission_error", a("modify"), a("static_procedure"), s("/", a("f"), i(1)))))
	checkTerm(t, "Type", Type("list", s("f", x(0))), ball(s("type_error", a("list"), s("f", x(0)))))
}

// P6.1
func TestErrorTermsWithoutCulprits(t *testing.T) {
	checkTerm(t, "Inst", Inst(), ball(a("instantiation_error")))
	for _, name := range names() {
		checkTerm(t, "Representation", Representation(name), ball(s("representation_error", a(name))))
		checkTerm(t, "Evaluation", Evaluation(name), ball(s("evaluation_error", a(name))))
	}
	for _, at := range []int{0, 1, 3, 12, 1 << 32, api.MaxVar + 1, math.MaxInt} {
		checkTerm(t, "Syntax", Syntax(at), ball(s("syntax_error", i(int64(at)))))
	}
}

// P6.1: arguments that are not valid.
func TestInvalidCulprits(t *testing.T) {
	all := invalid()
	for call, m := range makers() {
		for k, culprit := range all {
			if got := m.call("list", culprit); !isZero(got) {
				t.Errorf("%s accepts term %d", call, k)
			}
		}
	}
}

// P6.1: arguments that are not valid.
func TestInvalidNamesAndOffsets(t *testing.T) {
	for _, at := range []int{-1, -3, math.MinInt32, math.MinInt} {
		checkTerm(t, "Syntax", Syntax(at), api.Term{})
	}
	named := makers()
	delete(named, "Uninst")
	for _, name := range []string{tooLong(), tooLong() + tooLong(), string(make([]byte, 1000000))} {
		checkTerm(t, "Representation", Representation(name), api.Term{})
		checkTerm(t, "Evaluation", Evaluation(name), api.Term{})
		for call, m := range named {
			for _, culprit := range []api.Term{x(0), a("a"), s("f", i(1)), chain(api.MaxSize, x(0)), x(-1)} {
				checkTerm(t, call, m.call(name, culprit), api.Term{})
			}
		}
	}
}

// P6.1: culprits of the greatest sizes.
func TestLargeCulprits(t *testing.T) {
	for call, m := range makers() {
		for size := api.MaxSize - 10; size <= api.MaxSize; size++ {
			for _, culprit := range []api.Term{chain(size, x(0)), s("f", chain(10, x(5)), chain(size-11, a("a"))), list(chain(size-1960, a("b")), ones(980)...)} {
				want := m.formal(longest(), culprit)
				if size+m.nodes > api.MaxSize {
					want = m.formal(longest(), a("..."))
				}
				checkTerm(t, call, m.call(longest(), culprit), ball(want))
			}
		}
	}
	checkTerm(t, "Type", Type("list", list(a("[]"), ones(997)...)), ball(s("type_error", a("list"), list(a("[]"), ones(997)...))))
	checkTerm(t, "Type", Type("list", list(a("[]"), ones(998)...)), ball(s("type_error", a("list"), a("..."))))
	checkTerm(t, "Type", Type("list", list(a("[]"), ones(1000)...)), api.Term{})
}

// P6.2
func TestFormal(t *testing.T) {
	for k, u := range samples() {
		formal, ok := Formal(u)
		if u.Kind == api.KindStruct && u.Name == "error" && len(u.Args) == 2 {
			if !ok || !equal(formal, u.Args[0]) {
				t.Errorf("the formal of %s is %s, %v", text(u), text(formal), ok)
			}
		} else if ok || !isZero(formal) {
			t.Errorf("sample %d, %s, has the formal %s, %v", k, text(u), text(formal), ok)
		}
	}
	for k, u := range invalid() {
		if formal, ok := Formal(u); ok || !isZero(formal) {
			t.Errorf("term %d has the formal %s, %v", k, text(formal), ok)
		}
	}
}

// P6.2: the second argument does not matter; the name and the number of arguments do.
func TestFormalsOfOtherTerms(t *testing.T) {
	for _, formal := range []api.Term{x(0), x(3), i(1), a("a"), a("[]"), s("f", x(1), a("b")), chain(1996, x(1))} {
		for _, second := range []api.Term{x(0), x(9), i(2), a("[]"), a("context"), s("f", x(3))} {
			got, ok := Formal(s("error", formal, second))
			if checkTerm(t, "the formal", got, formal); !ok {
				t.Errorf("error(%s, %s) has no formal", text(formal), text(second))
			}
		}
		for _, u := range []api.Term{formal, a("error"), s("error", formal), s("error", formal, x(0), x(1)), s("Error", formal, x(0)), s("errors", formal, x(0)), s("", formal, x(0)), s("f", s("error", formal, x(0)), x(0))} {
			if got, ok := Formal(u); ok || !isZero(got) {
				t.Errorf("%s has the formal %s, %v", text(u), text(got), ok)
			}
		}
	}
}
