package balls

import (
	"testing"

	"hornbeam/api"
)

// calls are calls of all functions of the package; each returns the terms of its results.
func calls() map[string]func(t api.Term) []api.Term {
	all := map[string]func(t api.Term) []api.Term{
		"Inst, Representation, Evaluation, Syntax": func(t api.Term) []api.Term {
			return []api.Term{Inst(), Representation("max_arity"), Evaluation("undefined"), Syntax(3)}
		},
		"Formal": func(t api.Term) []api.Term {
			formal, _ := Formal(t)
			return []api.Term{formal}
		},
	}
	for name, m := range makers() {
		all[name] = func(t api.Term) []api.Term { return []api.Term{m.call("list", t)} }
	}
	for name, f := range allChecks() {
		all[name] = func(t api.Term) []api.Term {
			got := f(t)
			return append(got.value, got.ball)
		}
	}
	return all
}

// operands are arguments of the calls.
func operands() []api.Term {
	shared := s("g", x(3), s("h", a("b")))
	return []api.Term{
		x(4), i(97), i(-1), a("q"), a("[]"), s("f", x(0), s("g", x(0), i(1))), s("f", shared, shared), ball(s("type_error", a("list"), s("f", x(2)))), s("error", shared, shared),
		list(a("[]"), a("a"), s("f", x(0), a("b")), list(x(1), i(2))), list(a("[]"), shared, shared), list(x(2), s("f", a("a"))), list(s("g", a("c")), s("f", a("a")), i(5)),
		s("/", a("f"), i(3)), s("/", s("f", shared), i(3)), s("/", a("f"), s("f", shared, shared)), s("/", a("f"), i(-1)), s("/", a("f"), i(9)), s("/", x(1), shared), chain(1997, shared), x(-1), s("f", shared, a(tooLong())),
	}
}

// roomy returns copies of terms in which the list and each slice of arguments, also an empty one, has spare capacity.
func roomy(l []api.Term) []api.Term {
	const spare = 3
	c := make([]api.Term, len(l)+spare)
	for k, t := range l {
		t.Args = roomy(t.Args)
		c[k] = t
	}
	for k := range spare {
		c[len(l)+k] = a("spare")
	}
	return c[:len(l)]
}

// slots returns the addresses of all elements of a list of terms, and of those of the slices of arguments within it, with their spare capacity.
func slots(l []api.Term) []*api.Term {
	var all []*api.Term
	var visit func(l []api.Term)
	visit = func(l []api.Term) {
		whole := l[:cap(l)]
		for k := range whole {
			all = append(all, &whole[k])
			visit(whole[k].Args)
		}
	}
	visit(l)
	return all
}

// content is what a slot has, apart from the arguments, which have slots of their own.
type content struct {
	kind, arity int
	n           int64
	name        string
}

func contents(l []*api.Term) []content {
	var all []content
	for _, t := range l {
		all = append(all, content{t.Kind, len(t.Args), t.N, t.Name})
	}
	return all
}

// P6.7, R4: arguments, their spare capacity included, remain as they are.
func TestArgumentsAreNotModified(t *testing.T) {
	for name, f := range calls() {
		for k, u := range roomy(operands()) {
			all := slots([]api.Term{u})
			before := contents(all)
			f(u)
			for m, now := range contents(all) {
				if now != before[m] {
					t.Errorf("%s has changed operand %d: %v, not %v", name, k, now, before[m])
				}
			}
		}
	}
}

// P6.7, R4: no two slices of the argument and of the results overlap, even if parts of the argument share memory.
func TestResultsShareNoMemory(t *testing.T) {
	for name, f := range calls() {
		for _, l := range [][]api.Term{operands(), roomy(operands())} {
			for k, u := range l {
				taken := map[*api.Term]bool{}
				for _, slot := range slots([]api.Term{u}) {
					taken[slot] = true
				}
				for _, slot := range slots(f(u)) {
					if taken[slot] {
						t.Errorf("%s shares memory: operand %d", name, k)
					}
					taken[slot] = true
				}
			}
		}
	}
}

// P6.7: results are not kept, either: a result that is overwritten changes no later one.
func TestResultsAreNotKept(t *testing.T) {
	for name, f := range calls() {
		for k, u := range operands() {
			for _, slot := range slots(f(u)) {
				*slot = a("overwritten")
			}
			again, want := s("results", f(u)...), s("results", f(roomy(operands())[k])...)
			if !equal(again, want) {
				t.Errorf("%s has kept a result: operand %d, %s", name, k, texts(again.Args))
			}
		}
	}
}
