package order

import (
	"cmp"
	"math"
	"math/rand"
	"slices"
	"testing"

	"hornbeam/api"
	"hornbeam/term"
)

// P4.1: the kinds, the numbers, the names, the arities and the arguments, one beside the other.
func TestCmpOfAscendingTerms(t *testing.T) {
	l, others := ascending(), ascending()
	for k, p := range l {
		if !term.Valid(p) {
			t.Fatalf("%s is not valid", text(p))
		}
		for m, q := range others {
			if c := Cmp(p, q); c != cmp.Compare(k, m) {
				t.Errorf("Cmp(%s, %s) is %d", text(p), text(q), c)
			}
		}
	}
}

// P4.1
func TestCmpExamples(t *testing.T) {
	for _, c := range []struct {
		p, q api.Term
		want int
	}{
		{x(5), i(3), -1}, {i(3), a("a"), -1}, {a("zzz"), s("f", a("a")), -1}, {x(1), x(2), -1}, {i(-1), i(1), -1}, {s("f", a("b")), s("g", a("a")), -1},
		{s("f", a("b"), a("a")), s("g", a("a")), 1}, {a("ab"), a("a"), 1}, {s("f", x(0), a("b")), s("f", x(0), a("a")), 1},
		{x(3), x(3), 0}, {i(3), i(3), 0}, {i(math.MinInt64), i(math.MaxInt64), -1}, {a("a"), a("a"), 0}, {s("f", x(0), s("g", a("a"))), s("f", x(0), s("g", a("a"))), 0},
		{x(api.MaxVar), i(math.MinInt64), -1}, {i(math.MaxInt64), a(""), -1}, {a("\xff"), s("", x(0)), -1}, {a("f"), s("f", x(0)), -1},
		{s("f", a("a"), x(9)), s("f", a("b"), x(0)), -1}, {s("f", s("g", i(2)), i(1)), s("f", s("g", i(1)), i(2)), 1},
	} {
		if got := Cmp(c.p, c.q); got != c.want {
			t.Errorf("Cmp(%s, %s) is %d, not %d", text(c.p), text(c.q), got, c.want)
		}
	}
}

// P4.1
func TestCmpByTheChapter(t *testing.T) {
	l := samples()
	for _, p := range l {
		for _, q := range l {
			if c := Cmp(p, q); c != byTheChapter(p, q) {
				t.Errorf("Cmp(%s, %s) is %d", text(p), text(q), c)
			}
		}
	}
}

// P4.1, R1: a term that is not valid is not compared, not even where the other one would decide.
func TestCmpOfInvalidTerms(t *testing.T) {
	l := invalid()
	for k, u := range l {
		for _, v := range []api.Term{x(0), i(0), a("a"), s("f", a("a")), s("f", x(0), x(0)), u, l[(k+1)%len(l)]} {
			if Cmp(u, v) != 0 || Cmp(v, u) != 0 {
				t.Errorf("term %d is compared with %s: %d, %d", k, text(v), Cmp(u, v), Cmp(v, u))
			}
		}
	}
}

// P4.1, R3: an empty slice of arguments is none.
func TestCmpOfEmptyArguments(t *testing.T) {
	for _, u := range []api.Term{x(1), i(1), a("a")} {
		v := u
		v.Args = make([]api.Term, 0, 3)
		if Cmp(u, v) != 0 || Cmp(v, u) != 0 || Cmp(v, s("f", v)) != -1 {
			t.Errorf("%s: %d, %d", text(u), Cmp(u, v), Cmp(v, u))
		}
	}
}

// P4.6
func TestTheOrderIsTotal(t *testing.T) {
	l := samples()
	c := make([][]int, len(l))
	for k, p := range l {
		c[k] = make([]int, len(l))
		for m, q := range l {
			c[k][m] = Cmp(p, q)
			if c[k][m] != -Cmp(q, p) || (c[k][m] == 0) != term.Same(p, q) {
				t.Errorf("%s and %s: %d", text(p), text(q), c[k][m])
			}
		}
	}
	for k := range l {
		for m := range l {
			for n := range l {
				if c[k][m] <= 0 && c[m][n] <= 0 && c[k][n] > 0 {
					t.Fatalf("%s, %s, %s", text(l[k]), text(l[m]), text(l[n]))
				}
			}
		}
	}
}

// P4.7
func TestOneArgumentDecides(t *testing.T) {
	r, l := rand.New(rand.NewSource(7)), samples()
	for range 5000 {
		args := someOf(r, l, 1+r.Intn(api.MaxArity))
		others, at := slices.Clone(args), r.Intn(len(args))
		others[at] = l[r.Intn(len(l))]
		if p, q := s("f", args...), s("f", others...); Cmp(p, q) != Cmp(args[at], others[at]) {
			t.Errorf("argument %d of %s and %s: %d", at, text(p), text(q), Cmp(p, q))
		}
	}
}

// P4.4
func TestRank(t *testing.T) {
	for _, c := range []struct {
		l  []api.Term
		t  api.Term
		i  int
		ok bool
	}{
		{[]api.Term{a("a"), a("b"), a("c")}, a("a"), 0, true}, {[]api.Term{a("a"), a("b"), a("c")}, a("b"), 1, true}, {[]api.Term{a("a"), a("b"), a("c")}, a("c"), 2, true},
		{[]api.Term{a("a"), a("c")}, a("b"), 1, false}, {[]api.Term{a("a"), a("c")}, a("A"), 0, false}, {[]api.Term{a("a"), a("c")}, a("d"), 2, false},
		{nil, a("d"), 0, false}, {[]api.Term{}, x(0), 0, false}, {[]api.Term{a("d")}, a("d"), 0, true}, {[]api.Term{a("d")}, s("f", a("d")), 1, false}, {[]api.Term{a("d")}, i(0), 0, false},
	} {
		if at, ok := Rank(c.l, c.t); at != c.i || ok != c.ok {
			t.Errorf("the rank of %s in %s is %d, %v", text(c.t), texts(c.l), at, ok)
		}
	}
}

// P4.4
func TestRankCountsTheTermsBefore(t *testing.T) {
	all := quick()
	for n := range len(all) + 1 {
		l := all[:n]
		for k, u := range l {
			if at, ok := Rank(l, u); at != k || !ok {
				t.Errorf("the rank of element %d of %d, %s, is %d, %v", k, n, text(u), at, ok)
			}
		}
		for _, u := range all[n:] {
			if at, ok := Rank(l, u); at != n || ok {
				t.Errorf("the rank of %s above %d terms is %d, %v", text(u), n, at, ok)
			}
		}
	}
	all = ascending()
	for k, u := range all {
		rest := slices.Delete(slices.Clone(all), k, k+1)
		if at, ok := Rank(rest, u); at != k || ok {
			t.Errorf("the rank of %s, which is missing at %d, is %d, %v", text(u), k, at, ok)
		}
	}
}

// P4.4: elements that are not increasing, wherever they are, also where the term would be found.
func TestRankOfListsThatAreNotIncreasing(t *testing.T) {
	if at, ok := Rank([]api.Term{a("c"), a("a")}, a("b")); at != 0 || ok {
		t.Errorf("%d, %v", at, ok)
	}
	l := quick()
	for k := range len(l) - 1 {
		swapped, repeated := slices.Clone(l), slices.Insert(slices.Clone(l), k, l[k])
		swapped[k], swapped[k+1] = swapped[k+1], swapped[k]
		for _, u := range []api.Term{l[0], l[k], l[len(l)-1], s("z", l[1:9]...)} {
			for _, list := range [][]api.Term{swapped, repeated} {
				if at, ok := Rank(list, u); at != 0 || ok {
					t.Errorf("the rank of %s in %d terms that are not increasing at %d is %d, %v", text(u), len(list), k, at, ok)
				}
			}
		}
	}
}

// P4.4, R1
func TestRankOfInvalidTerms(t *testing.T) {
	l := []api.Term{x(0), i(1), a("a"), a("b"), s("f", a("a"))}
	for k, u := range invalid() {
		if at, ok := Rank(l, u); at != 0 || ok {
			t.Errorf("the rank of term %d is %d, %v", k, at, ok)
		}
		if at, ok := Rank([]api.Term{u}, u); at != 0 || ok {
			t.Errorf("the rank of term %d in itself is %d, %v", k, at, ok)
		}
		for place := range len(l) + 1 {
			list := slices.Insert(slices.Clone(l), place, u)
			for _, v := range l {
				if at, ok := Rank(list, v); at != 0 || ok {
					t.Errorf("the rank of %s, with term %d at %d, is %d, %v", text(v), k, place, at, ok)
				}
			}
		}
	}
}
