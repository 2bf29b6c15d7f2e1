package order

import (
	"testing"

	"hornbeam/api"
)

// roomy returns a copy of a list of terms in which the list and each slice of arguments, also an empty one, has spare capacity.
func roomy(l []api.Term) []api.Term {
	const spare = 3
	c := make([]api.Term, len(l)+spare)
	for k, t := range l {
		t.Args = roomy(t.Args)
		c[k] = t
	}
	for k := range spare {
		c[len(l)+k] = a("spare")
	}
	return c[:len(l)]
}

// slots returns the addresses of all that a list of terms and the slices of arguments within it hold, with their spare capacity.
func slots(l []api.Term) []*api.Term {
	var all []*api.Term
	whole := l[:cap(l)]
	for k := range whole {
		all = append(all, &whole[k])
		all = append(all, slots(whole[k].Args)...)
	}
	return all
}

// held is what a slot holds, apart from the arguments, which have slots of their own.
type held struct {
	kind, arity int
	n           int64
	name        string
}

// contents returns what slots hold.
func contents(l []*api.Term) []held {
	var all []held
	for _, t := range l {
		all = append(all, held{t.Kind, len(t.Args), t.N, t.Name})
	}
	return all
}

// unsorted are pairs in descending order, in which some are repeated.
func unsorted() []api.Term {
	repeated := pair(s("f", x(1), s("g", a("a"))), s("h", i(1)))
	return []api.Term{repeated, pair(a("b"), s("h", i(2))), repeated, pair(a("b"), s("h", i(1))), pair(i(1), x(2)), pair(x(0), a("a")), pair(x(0), a("a"))}
}

// P4.5, R4: arguments, their spare capacity included, remain as they are.
func TestArgumentsAreNotModified(t *testing.T) {
	up, _ := Sort(unsorted())
	for name, call := range map[string]func(l []api.Term){
		"Sort": func(l []api.Term) { Sort(l) }, "Stable": func(l []api.Term) { Stable(l) }, "Keys": func(l []api.Term) { Keys(l) },
		"Rank": func(l []api.Term) { Rank(l, l[0]) }, "Cmp": func(l []api.Term) { Cmp(l[0], l[1]) },
	} {
		for k, l := range [][]api.Term{roomy(unsorted()), roomy(up)} {
			all := slots(l)
			before := contents(all)
			call(l)
			for m, now := range contents(all) {
				if now != before[m] {
					t.Errorf("%s has changed list %d: %v, not %v", name, k, now, before[m])
				}
			}
		}
	}
}

// P4.5, R4: no slices of a result overlap with one another, or with those of the argument.
func TestResultsShareNoMemory(t *testing.T) {
	for name, sorting := range sortings() {
		for k, l := range [][]api.Term{roomy(unsorted()), roomy(unsorted()[:1]), unsorted()} {
			taken := map[*api.Term]bool{}
			for _, slot := range slots(l) {
				taken[slot] = true
			}
			got, e := sorting(l)
			if e != api.OK {
				t.Errorf("%s of list %d: %d", name, k, e)
			}
			for _, slot := range slots(got) {
				if taken[slot] {
					t.Errorf("%s of list %d shares memory", name, k)
				}
				taken[slot] = true
			}
		}
	}
}
