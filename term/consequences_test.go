package term

import (
	"slices"
	"testing"

	"hornbeam/api"
)

// P3.9
func TestCanonicalForms(t *testing.T) {
	for _, u := range samples() {
		c := Canon(u)
		if !Variant(c, u) || !Same(Canon(c), c) {
			t.Errorf("the canonical form of %s is %s", text(u), text(c))
		}
		for k, v := range Vars(c) {
			if v != int64(k) {
				t.Errorf("variable %d of %s is %d", k, text(c), v)
			}
		}
		if len(Vars(c)) != len(Vars(u)) {
			t.Errorf("%s has lost a variable of %s", text(c), text(u))
		}
		for _, from := range []int64{0, 1, 1000, api.MaxVar - 10} {
			if r, e := Rename(u, from); e == api.OK && !Variant(r, u) {
				t.Errorf("%s is no variant of %s", text(r), text(u))
			}
		}
	}
}

// P3.10
func TestReplacement(t *testing.T) {
	by := []api.Term{x(20), a("a"), s("f", x(21), x(20)), s("f", a("a"), s("g", i(1), x(21)))}
	for _, u := range samples() {
		for _, v := range append(Vars(u), 11) {
			if r, e := Replace(u, v, x(v)); e != api.OK || !Same(r, u) {
				t.Errorf("%d in place of itself in %s: %s, %d", v, text(u), text(r), e)
			}
			occurrences := 0
			for _, node := range nodes(u) {
				if equal(node, x(v)) {
					occurrences++
				}
			}
			for _, w := range by {
				r, e := Replace(u, v, w)
				if slices.Contains(Vars(r), v) {
					t.Errorf("%d remains in %s", v, text(r))
				}
				if n := Size(u) + occurrences*(Size(w)-1); e == api.OK && Size(r) != n || (e == api.OK) != (n <= api.MaxSize) {
					t.Errorf("the size of %s is %d, not %d", text(r), Size(r), n)
				}
			}
		}
	}
}

// P3.11
func TestListsAndElements(t *testing.T) {
	all := samples()
	for k, tail := range all {
		more, end := Elems(tail)
		if !Same(List(more, end), tail) {
			t.Errorf("the elements of %s make %s", text(tail), text(List(more, end)))
		}
		for n := range min(6, k) {
			l, size := all[k-n:k], Size(tail)
			for _, element := range l {
				size += 1 + Size(element)
			}
			u := List(l, tail)
			if size > api.MaxSize {
				check(t, "List", u, api.Term{})
				continue
			}
			elements, last := Elems(u)
			if !slices.EqualFunc(elements, slices.Concat(l, more), Same) || !Same(last, end) {
				t.Errorf("the elements of %s are %s and %s", text(u), text(s("", elements...)), text(last))
			}
		}
	}
}
