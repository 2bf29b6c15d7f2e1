package term

import (
	"testing"

	"hornbeam/api"
)

// roomy returns a copy of a valid term in which each slice of arguments, also an empty one, has spare capacity.
func roomy(t api.Term) api.Term {
	const spare = 3
	args := make([]api.Term, 0, len(t.Args)+spare)
	for _, arg := range t.Args {
		args = append(args, roomy(arg))
	}
	for k := range spare {
		args[:cap(args)][len(args)+k] = a("spare")
	}
	t.Args = args
	return t
}

// cells returns the addresses of all that the slices of arguments within a term hold, with their spare capacity.
func cells(t api.Term) []*api.Term {
	var l []*api.Term
	for _, node := range nodes(t) {
		all := node.Args[:cap(node.Args)]
		for k := range all {
			l = append(l, &all[k])
		}
	}
	return l
}

// contents returns what the addresses hold, apart from arguments, which have addresses of their own.
func contents(l []*api.Term) []api.Term {
	var held []api.Term
	for _, cell := range l {
		held = append(held, api.Term{Kind: cell.Kind, N: cell.N, Name: cell.Name, Args: make([]api.Term, len(cell.Args))})
	}
	return held
}

// call applies a function of the package to terms, and returns all terms of its result.
type call func(terms []api.Term) []api.Term

func one(t api.Term) []api.Term { return []api.Term{t} }

func calls() map[string]call {
	return map[string]call{
		"Valid, Same, Size, Vars, Variant": func(l []api.Term) []api.Term {
			Valid(l[0])
			Same(l[0], l[1])
			Size(l[0])
			Vars(l[0])
			Variant(l[0], l[1])
			return nil
		},
		"Canon": func(l []api.Term) []api.Term { return one(Canon(l[0])) },
		"Clone": func(l []api.Term) []api.Term { return one(Clone(l[0])) },
		"Rename": func(l []api.Term) []api.Term {
			r, _ := Rename(l[0], 10)
			return one(r)
		},
		"Rename by 0": func(l []api.Term) []api.Term {
			r, _ := Rename(l[0], 0)
			return one(r)
		},
		"Replace": func(l []api.Term) []api.Term {
			r, _ := Replace(l[0], 0, l[1])
			return one(r)
		},
		"Replace of another variable": func(l []api.Term) []api.Term {
			r, _ := Replace(l[0], 99, l[1])
			return one(r)
		},
		"Struct":                 func(l []api.Term) []api.Term { return one(Struct("f", l...)) },
		"Struct of one argument": func(l []api.Term) []api.Term { return one(Struct("f", l[0], l[0])) },
		"List":                   func(l []api.Term) []api.Term { return one(List(l, l[0])) },
		"List of one element":    func(l []api.Term) []api.Term { return one(List([]api.Term{l[0], l[0]}, l[1])) },
		"List without elements":  func(l []api.Term) []api.Term { return one(List(nil, l[0])) },
		"Elems": func(l []api.Term) []api.Term {
			elements, tail := Elems(l[0])
			return append(elements, tail)
		},
	}
}

// operands are lists of two terms; the parts of the terms share no memory.
func operands() [][]api.Term {
	list := s(".", s("f", x(0)), s(".", x(0), s(".", i(1), s("g", a("a"), x(3)))))
	return [][]api.Term{
		{list, s("h", x(0), a("b"))}, {s("f", x(0), s("g", x(0), x(1), x(0))), s("g", s("h", x(2)), s("h", x(2)))},
		{x(0), a("a")}, {i(5), i(6)}, {a("a"), x(0)}, {x(3), s("f", x(3))},
	}
}

// fresh returns a copy of a list of terms that has spare capacity everywhere; the whole is an argument of a structure to be kept in view.
func fresh(l []api.Term) api.Term {
	return roomy(s("whole", l...))
}

// P3.8, R4: arguments, their spare capacity included, remain as they are.
func TestArgumentsAreNotModified(t *testing.T) {
	for name, f := range calls() {
		for k, l := range operands() {
			whole := fresh(l)
			addresses := cells(whole)
			before := contents(addresses)
			f(whole.Args)
			for m, held := range contents(addresses) {
				if !equal(held, before[m]) {
					t.Errorf("%s has changed operand %d: %s, not %s", name, k, text(held), text(before[m]))
				}
			}
		}
	}
}

// P3.8, R4: no two slices of the arguments and the results overlap, and also none of one result.
func TestResultsShareNoMemory(t *testing.T) {
	for name, f := range calls() {
		for k, l := range operands() {
			whole := fresh(l)
			taken := map[*api.Term]bool{}
			for _, cell := range cells(whole) {
				taken[cell] = true
			}
			results := f(whole.Args)
			all := cells(s("results", results...))[len(results):]
			for m := range results[:cap(results)] {
				all = append(all, &results[:cap(results)][m])
			}
			for _, cell := range all {
				if taken[cell] {
					t.Errorf("%s shares memory: operand %d", name, k)
				}
				taken[cell] = true
			}
		}
	}
}

// P3.8: terms that share memory have results that share none.
func TestSharingEnds(t *testing.T) {
	shared := doubled(5, s("f", x(0)))
	elements, tail := Elems(s(".", shared, s(".", shared, shared)))
	renamed, _ := Rename(shared, 1)
	replaced, _ := Replace(shared, 0, shared)
	for name, u := range map[string]api.Term{
		"Canon": Canon(shared), "Clone": Clone(shared), "Rename": renamed, "Replace": replaced, "Struct": Struct("f", shared, shared), "List": List([]api.Term{shared, shared}, shared), "Elems": s("f", append(elements, tail)...),
	} {
		taken := map[*api.Term]bool{}
		for _, cell := range cells(u) {
			if taken[cell] {
				t.Fatalf("%s shares memory", name)
			}
			taken[cell] = true
		}
	}
}

// P3.8: results are not kept either: a result that is overwritten does not change later ones.
func TestResultsAreNotKept(t *testing.T) {
	for name, f := range calls() {
		for k, l := range operands() {
			whole := fresh(l)
			for _, cell := range cells(s("results", f(whole.Args)...)) {
				*cell = a("overwritten")
			}
			again, want := f(whole.Args), f(fresh(l).Args)
			for m := range want {
				if !equal(again[m], want[m]) {
					t.Errorf("%s has kept a result: operand %d", name, k)
				}
			}
		}
	}
}
