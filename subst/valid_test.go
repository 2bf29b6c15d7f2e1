package subst

import (
	"math/rand"
	"testing"

	"hornbeam/api"
)

// validLists are valid bindings.
func validLists() [][]api.Binding {
	return [][]api.Binding{
		nil, {}, {bind(0, a("a"))}, {bind(api.MaxVar, i(-1))}, {bind(0, x(api.MaxVar))}, {bind(api.MaxVar, x(0))}, {bind(0, i(0))}, {bind(3, i(3))},
		{bind(0, x(1)), bind(1, a("a"))}, {bind(0, a("a")), bind(1, x(0))}, {bind(0, x(1)), bind(1, s("f", x(2)))}, {bind(0, s("f", x(1), x(1), x(2))), bind(1, x(2)), bind(api.MaxVar, s("g", x(0), x(1)))},
		{bind(5, s("f", x(6))), bind(8, s("f", x(5), x(7)))}, list(0, s("f", x(4), x(2)), s("f", x(0)), s("f", x(4), x(3)), x(4)), {bind(0, chain(api.MaxSize, x(1))), bind(1, chain(api.MaxSize, x(2)))},
		steps(0, 5000, same), steps(0, 5000, wrapped), steps(0, 500, twice), steps(api.MaxVar-100, 100, twice),
	}
}

// P5.1
func TestValid(t *testing.T) {
	for k, l := range validLists() {
		if !Valid(l) {
			t.Errorf("list %d is not valid", k)
		}
	}
	for k, l := range invalidBindings() {
		if Valid(l) {
			t.Errorf("list %d is valid: %s", k, texts(l))
		}
	}
}

// P5.1: many bindings, of which each term is deep, too: nothing depends on how many there are.
func TestValidLong(t *testing.T) {
	const many = 1 << 16
	for _, of := range []func(api.Term) api.Term{same, wrapped, twice} {
		l := steps(1, many, of)
		if !Valid(l) {
			t.Error("a long list is not valid")
		}
		l[many-1].To = s("f", x(many+1), x(1))
		if Valid(l) {
			t.Error("a long cycle is valid")
		}
	}
	const deep = 1 << 9
	l := steps(1, deep, func(next api.Term) api.Term { return chain(api.MaxSize, next) })
	if !Valid(l) {
		t.Error("a list of deep terms is not valid")
	}
	l[deep-1].To = chain(api.MaxSize, x(1))
	if Valid(l) {
		t.Error("a cycle through deep terms is valid")
	}
}

// dependsByTheChapter reports whether the variable v depends on the variable w.
func dependsByTheChapter(bound map[int64]api.Term, v, w int64, seen map[int64]bool) bool {
	to, ok := bound[v]
	if !ok || seen[v] {
		return false
	}
	seen[v] = true
	for _, node := range nodes(to) {
		if node.Kind == api.KindVar && (node.N == w || dependsByTheChapter(bound, node.N, w, seen)) {
			return true
		}
	}
	return false
}

// P5.1: whether a variable depends on itself, in random bindings.
func TestValidRandom(t *testing.T) {
	r := rand.New(rand.NewSource(5))
	count := map[bool]int{}
	for range 5000 {
		var l []api.Binding
		for _, v := range someVars() {
			if r.Intn(3) > 0 {
				l = append(l, bind(v, small(r, someVars(), 1)))
			}
		}
		want, bound := true, mapped(l)
		for v := range bound {
			want = want && !dependsByTheChapter(bound, v, v, map[int64]bool{})
		}
		count[want]++
		if Valid(l) != want {
			t.Errorf("Valid of %s is not %v", texts(l), want)
		}
	}
	if count[true] < 500 || count[false] < 500 {
		t.Errorf("valid and not valid: %v", count)
	}
}

// P5.1
func TestLook(t *testing.T) {
	two := list(0, x(1), s("f", x(2)))
	for k, c := range []struct {
		s    []api.Binding
		t, r api.Term
	}{
		{two, x(0), s("f", x(2))}, {two, x(1), s("f", x(2))}, {two, x(2), x(2)}, {two, x(api.MaxVar), x(api.MaxVar)}, {two, i(0), i(0)}, {two, a("a"), a("a")}, {nil, x(5), x(5)}, {nil, s("f", x(5)), s("f", x(5))},
		{two, s("f", x(0)), s("f", x(0))}, {list(0, s("f", x(1)), a("a")), x(0), s("f", x(1))}, {list(0, s("f", x(1)), a("a")), s("g", x(0), x(1)), s("g", x(0), x(1))},
		{list(2, x(1), x(2), x(3), i(7)), x(4), x(1)}, {list(2, x(1), x(2), x(3), i(7)), x(5), i(7)}, {[]api.Binding{bind(0, x(api.MaxVar)), bind(9, x(0)), bind(api.MaxVar, a(""))}, x(9), a("")},
		{steps(1, 1<<16, same), x(1), x(1<<16 + 1)}, {list(0, chain(api.MaxSize, x(1)), a("a")), x(0), chain(api.MaxSize, x(1))},
	} {
		if r := Look(c.s, c.t); !equal(r, c.r) {
			t.Errorf("%d: Look(%s) is %s", k, text(c.t), text(r))
		}
	}
}

// P5.1: Look with random bindings: the result is no bound variable, and the first that is none.
func TestLookRandom(t *testing.T) {
	r := rand.New(rand.NewSource(6))
	for range 3000 {
		l, u := smallBindings(r), small(r, someVars(), 2)
		want, bound := u, mapped(l)
		for to, ok := bound[want.N]; ok && want.Kind == api.KindVar; to, ok = bound[want.N] {
			want = to
		}
		check(t, "Look", Look(l, u), want)
	}
}

// P5.1: arguments that are not valid.
func TestLookInvalid(t *testing.T) {
	for k, l := range invalidBindings() {
		for _, u := range []api.Term{a("a"), x(0), x(9), s("f", x(0))} {
			if r := Look(l, u); !isZero(r) {
				t.Errorf("list %d: Look(%s) is %s", k, text(u), text(r))
			}
		}
	}
	lists := [][]api.Binding{nil, list(0, a("a")), list(0, x(0))}
	for k, u := range invalid() {
		for _, l := range lists {
			if r := Look(l, u); !isZero(r) {
				t.Errorf("Look of term %d is %s", k, text(r))
			}
		}
	}
}
