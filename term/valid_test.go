package term

import (
	"testing"

	"hornbeam/api"
)

// P3.1
func TestValid(t *testing.T) {
	for _, u := range samples() {
		if !Valid(u) {
			t.Errorf("%s is not valid", text(u))
		}
	}
	for k, u := range invalid() {
		if Valid(u) {
			t.Errorf("term %d is valid", k)
		}
	}
}

// P3.1: each argument is checked, at each position and whatever the name and the number of the others.
func TestEachArgumentIsChecked(t *testing.T) {
	for arity := 1; arity <= api.MaxArity; arity++ {
		for position := range arity {
			for k, node := range faulty() {
				args := make([]api.Term, arity)
				if u := s("f", args...); !Valid(u) {
					t.Fatalf("%s is not valid", text(u))
				}
				args[position] = node
				if Valid(s("f", args...)) {
					t.Errorf("node %d is accepted as argument %d of %d", k, position, arity)
				}
			}
		}
	}
}

// P3.1, R3: an empty slice of arguments is none.
func TestEmptyArguments(t *testing.T) {
	for kind, ok := range []bool{api.KindVar: true, api.KindInt: true, api.KindAtom: true, api.KindStruct: false} {
		u := api.Term{Kind: kind, Args: make([]api.Term, 0, 3)}
		if Valid(u) != ok || Size(u) != 1 || Same(u, api.Term{Kind: kind}) != ok || Variant(api.Term{Kind: kind}, u) != ok {
			t.Errorf("kind %d: %v, %d", kind, Valid(u), Size(u))
		}
	}
}

// P3.1
func TestSize(t *testing.T) {
	for _, u := range samples() {
		if n := Size(u); n != len(nodes(u)) {
			t.Errorf("the size of %s is %d", text(u), n)
		}
	}
	two := []api.Term{x(-1), {Kind: 7, Args: []api.Term{s("f")}}}
	for k, c := range []struct {
		t api.Term
		n int
	}{
		{s("f", a("a"), x(0)), 3}, {s("f", a("a"), s("g", x(0)), i(3)), 5},
		{x(-1), 1}, {s("f"), 1}, {a(longest() + "n"), 1}, {api.Term{Kind: -5}, 1}, {s("f", make([]api.Term, 9)...), 10},
		{api.Term{Kind: api.KindVar, Args: two}, 4}, {api.Term{Kind: api.KindInt, Args: two}, 4}, {api.Term{Kind: api.KindAtom, Args: two}, 4}, {api.Term{Kind: 9, Args: two}, 4},
		{s("f", make([]api.Term, 1998)...), 1999}, {s("f", make([]api.Term, 1999)...), 2000}, {s("f", make([]api.Term, 2000)...), 2001}, {s("f", make([]api.Term, 2001)...), 2001}, {s("f", make([]api.Term, 1000000)...), 2001},
		{flat(999), 1999}, {s("f", flat(999)), 2000}, {flat(1000), 2001}, {flat(1001), 2001}, {s("f", flat(999), i(1)), 2001},
		{chain(1999, x(0)), 1999}, {chain(2000, x(0)), 2000}, {chain(2001, x(0)), 2001}, {chain(2002, x(0)), 2001}, {chain(1000000, x(0)), 2001},
		{doubled(9, x(0)), 1023}, {doubled(10, x(0)), 2001}, {doubled(60, x(0)), 2001},
		{endless(api.KindStruct), 2001}, {endless(api.KindAtom), 2001}, {endless(9), 2001},
	} {
		if n := Size(c.t); n != c.n {
			t.Errorf("%d: the size is %d, not %d", k, n, c.n)
		}
	}
}

// P3.2
func TestSame(t *testing.T) {
	l, others := valid(), valid()
	for k, u := range l {
		for m, v := range others {
			if Same(u, v) != (k == m) {
				t.Errorf("Same(%s, %s) is %v", text(u), text(v), k != m)
			}
		}
	}
}

// P3.2
func TestVariant(t *testing.T) {
	all := samples()
	for k, u := range all {
		for m, v := range all {
			if Variant(u, v) != renamable(u, v) {
				t.Errorf("Variant of %d and %d, %s and %s, is %v", k, m, text(u), text(v), Variant(u, v))
			}
		}
	}
	for _, c := range []struct {
		a, b api.Term
		ok   bool
	}{
		{s("f", x(0), x(1)), s("f", x(1), x(0)), true}, {s("f", x(0), x(0)), s("f", x(0), x(1)), false}, {s("f", x(0), x(1)), s("f", x(0), x(0)), false},
		{x(0), x(api.MaxVar), true}, {x(0), i(0), false}, {i(0), i(1), false}, {a("a"), a("a"), true}, {a("a"), a("b"), false},
		{s("f", x(3), s("g", x(9), x(3))), s("f", x(9), s("g", x(3), x(9))), true}, {s("f", x(3), s("g", x(9), x(3))), s("f", x(9), s("g", x(3), x(3))), false},
		{s("f", x(0)), s("g", x(0)), false}, {s("f", x(0)), s("f", x(0), x(1)), false},
	} {
		if Variant(c.a, c.b) != c.ok {
			t.Errorf("Variant(%s, %s) is %v", text(c.a), text(c.b), !c.ok)
		}
	}
}

// renamable reports whether two terms are equal but for the names of variables, of which each corresponds to one of the other term.
func renamable(p, q api.Term) bool {
	if p.Kind != q.Kind || p.Name != q.Name {
		return false
	}
	l, m := nodes(p), nodes(q)
	if len(l) != len(m) {
		return false
	}
	to, from := map[int64]int64{}, map[int64]int64{}
	for k, node := range l {
		other := m[k]
		if node.Kind != other.Kind || node.Name != other.Name || len(node.Args) != len(other.Args) || node.Kind != api.KindVar && node.N != other.N {
			return false
		}
		if node.Kind != api.KindVar {
			continue
		}
		forth, known := to[node.N]
		back, met := from[other.N]
		if known != met || known && (forth != other.N || back != node.N) {
			return false
		}
		to[node.N], from[other.N] = other.N, node.N
	}
	return true
}

// P3.2: a term that is not valid is not identical to anything, not even to itself.
func TestInvalidTermsAreNotCompared(t *testing.T) {
	for k, u := range invalid() {
		for _, v := range []api.Term{x(0), a("a"), s("f", a("a")), u} {
			if Same(u, v) || Same(v, u) || Variant(u, v) || Variant(v, u) {
				t.Errorf("term %d and %d", k, v.Kind)
			}
		}
	}
}
