package order

import (
	"math/rand"
	"slices"
	"testing"

	"hornbeam/api"
	"hornbeam/term"
)

// sortings are the functions that sort, by their names.
func sortings() map[string]func(l []api.Term) ([]api.Term, api.Errno) {
	return map[string]func(l []api.Term) ([]api.Term, api.Errno){"Sort": Sort, "Stable": Stable, "Keys": Keys}
}

// lists are lists of valid terms of various lengths, in which elements are repeated.
func lists() [][]api.Term {
	r, l := rand.New(rand.NewSource(2)), samples()
	all := [][]api.Term{nil, {}, ascending(), slices.Concat(ascending(), ascending())}
	for n := range 60 {
		all = append(all, someOf(r, l, n), someOf(r, l[:1+n/4], n))
	}
	return append(all, someOf(r, l, 3000))
}

// P4.2
func TestSortExamples(t *testing.T) {
	for _, c := range []struct{ l, sort, stable []api.Term }{
		{nil, nil, nil},
		{[]api.Term{x(7)}, []api.Term{x(7)}, []api.Term{x(7)}},
		{[]api.Term{a("c"), i(1), a("b"), i(1)}, []api.Term{i(1), a("b"), a("c")}, []api.Term{i(1), i(1), a("b"), a("c")}},
		{[]api.Term{x(1), x(0), x(1)}, []api.Term{x(0), x(1)}, []api.Term{x(0), x(1), x(1)}},
		{[]api.Term{s("f", a("a")), a("f"), i(2), x(3)}, []api.Term{x(3), i(2), a("f"), s("f", a("a"))}, []api.Term{x(3), i(2), a("f"), s("f", a("a"))}},
		{[]api.Term{a("a"), a("a"), a("a")}, []api.Term{a("a")}, []api.Term{a("a"), a("a"), a("a")}},
		{[]api.Term{s("f", x(1)), s("f", x(0)), s("f", x(1))}, []api.Term{s("f", x(0)), s("f", x(1))}, []api.Term{s("f", x(0)), s("f", x(1)), s("f", x(1))}},
	} {
		got, e := Sort(c.l)
		check(t, "Sort", got, e, c.sort)
		got, e = Stable(c.l)
		check(t, "Stable", got, e, c.stable)
	}
}

// P4.2
func TestSortByTheChapter(t *testing.T) {
	for _, l := range lists() {
		want := slices.Clone(l)
		slices.SortFunc(want, byTheChapter)
		got, e := Stable(l)
		check(t, "Stable", got, e, want)
		got, e = Sort(l)
		check(t, "Sort", got, e, slices.CompactFunc(want, term.Same))
	}
}

// P4.2, P4.3, R1, R2, R3: a term that is not valid, at each place.
func TestSortInvalidTerms(t *testing.T) {
	l := []api.Term{pair(a("b"), i(1)), pair(a("a"), i(2)), pair(a("b"), i(1))}
	for name, sorting := range sortings() {
		for k, u := range invalid() {
			for place := range len(l) + 1 {
				if got, e := sorting(slices.Insert(slices.Clone(l), place, u)); len(got) != 0 || e != api.ErrArg {
					t.Errorf("%s with term %d at %d is %s, %d", name, k, place, texts(got), e)
				}
			}
			if got, e := sorting([]api.Term{u}); len(got) != 0 || e != api.ErrArg {
				t.Errorf("%s of term %d is %s, %d", name, k, texts(got), e)
			}
		}
	}
}

// P4.3
func TestKeysExamples(t *testing.T) {
	for _, c := range []struct{ l, want []api.Term }{
		{nil, nil},
		{[]api.Term{pair(a("b"), i(1)), pair(a("a"), i(2)), pair(a("b"), i(0))}, []api.Term{pair(a("a"), i(2)), pair(a("b"), i(1)), pair(a("b"), i(0))}},
		{[]api.Term{pair(a("a"), i(1)), pair(a("a"), i(1))}, []api.Term{pair(a("a"), i(1)), pair(a("a"), i(1))}},
		{[]api.Term{pair(s("f", a("a")), i(1)), pair(a("z"), i(2)), pair(i(5), i(3)), pair(x(8), i(4))}, []api.Term{pair(x(8), i(4)), pair(i(5), i(3)), pair(a("z"), i(2)), pair(s("f", a("a")), i(1))}},
		{[]api.Term{pair(x(1), a("a")), pair(x(0), a("b"))}, []api.Term{pair(x(0), a("b")), pair(x(1), a("a"))}},
		{[]api.Term{pair(pair(a("a"), a("b")), x(0)), pair(pair(a("a"), a("a")), x(1))}, []api.Term{pair(pair(a("a"), a("a")), x(1)), pair(pair(a("a"), a("b")), x(0))}},
	} {
		got, e := Keys(c.l)
		check(t, "Keys", got, e, c.want)
	}
}

// P4.3: the wanted list is made by choosing, for each key in turn, its pairs as they come.
func TestKeysByTheChapter(t *testing.T) {
	r, keys := rand.New(rand.NewSource(3)), samples()
	for n := range 300 {
		l := make([]api.Term, n)
		var different []api.Term
		for k := range l {
			chosen := keys[r.Intn(1+n/5)]
			l[k] = pair(chosen, small(r, 2))
			if !slices.ContainsFunc(different, func(u api.Term) bool { return term.Same(u, chosen) }) {
				different = append(different, chosen)
			}
		}
		slices.SortFunc(different, byTheChapter)
		var want []api.Term
		for _, u := range different {
			for _, p := range l {
				if term.Same(p.Args[0], u) {
					want = append(want, p)
				}
			}
		}
		got, e := Keys(l)
		check(t, "Keys", got, e, want)
	}
}

// P4.3, R2, R3: an element that is not a pair, at each place; one that is not valid has precedence, wherever it is.
func TestKeysOfTermsThatAreNotPairs(t *testing.T) {
	pairs := []api.Term{pair(a("b"), i(1)), pair(a("a"), i(2)), pair(a("b"), i(0))}
	for _, u := range []api.Term{
		x(0), i(1), i(-1), a("a"), a("-"), a(""), s("-", a("a")), s("-", a("a"), a("b"), a("c")), s("+", a("a"), a("b")), s(".", a("a"), a("b")), s("--", a("a"), a("b")), s("", a("a"), a("b")), s("f", pair(a("a"), a("b"))),
	} {
		for place := range len(pairs) + 1 {
			l := slices.Insert(slices.Clone(pairs), place, u)
			if got, e := Keys(l); len(got) != 0 || e != api.ErrForm {
				t.Errorf("Keys with %s at %d is %s, %d", text(u), place, texts(got), e)
			}
			for at := range len(l) + 1 {
				if got, e := Keys(slices.Insert(slices.Clone(l), at, api.Term{N: -1})); len(got) != 0 || e != api.ErrArg {
					t.Errorf("Keys with %s at %d, and an invalid term at %d, is %s, %d", text(u), place, at, texts(got), e)
				}
			}
		}
	}
}

// P4.8
func TestSortingDoesNotDependOnTheOrder(t *testing.T) {
	r := rand.New(rand.NewSource(8))
	for _, l := range lists() {
		sort, _ := Sort(l)
		stable, _ := Stable(l)
		for range 3 {
			l = slices.Clone(l)
			r.Shuffle(len(l), func(k, m int) { l[k], l[m] = l[m], l[k] })
			got, e := Sort(l)
			check(t, "Sort of a list in another order", got, e, sort)
			got, e = Stable(l)
			check(t, "Stable of a list in another order", got, e, stable)
		}
		got, e := Sort(sort)
		check(t, "Sort of Sort", got, e, sort)
		got, e = Sort(stable)
		check(t, "Sort of Stable", got, e, sort)
	}
}

// P4.9
func TestRanksInSortedLists(t *testing.T) {
	for _, l := range lists() {
		sort, _ := Sort(l)
		if len(l) > 0 && len(sort) == 0 {
			t.Errorf("Sort has lost %s", texts(l))
		}
		for k, u := range sort {
			if at, ok := Rank(sort, u); at != k || !ok {
				t.Errorf("the rank of element %d, %s, is %d, %v", k, text(u), at, ok)
			}
		}
	}
}
