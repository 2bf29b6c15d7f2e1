package subst

import (
	"fmt"
	"testing"

	"hornbeam/api"
)

const spare = 3

// roomy returns a copy of a term in which each slice of arguments, also an empty one, has spare capacity.
func roomy(t api.Term) api.Term {
	args := make([]api.Term, len(t.Args), len(t.Args)+spare)
	for k := range args[:cap(args)] {
		if k < len(t.Args) {
			args[k] = roomy(t.Args[k])
		} else {
			args[:cap(args)][k] = a("spare")
		}
	}
	t.Args = args
	return t
}

// roomyBindings returns a copy of bindings with spare capacity everywhere.
func roomyBindings(l []api.Binding) []api.Binding {
	c := make([]api.Binding, 0, len(l)+spare)
	for _, b := range l {
		c = append(c, bind(b.Var, roomy(b.To)))
	}
	for k := range spare {
		c[:cap(c)][len(l)+k] = bind(int64(k), roomy(a("spare")))
	}
	return c
}

// slot is an element of a slice: its address, and how to show and to overwrite it.
type slot struct {
	address any
	shown   func() string
	spoil   func()
}

// show shows a node without its arguments, which have slots of their own.
func show(t api.Term) string { return fmt.Sprint(t.Kind, t.N, t.Name, len(t.Args)) }

// termSlots returns the slots of the slices of arguments within a term, with their spare capacity.
func termSlots(t api.Term) []slot {
	var l []slot
	args := t.Args[:cap(t.Args)]
	for k := range args {
		arg := &args[k]
		inner := termSlots(*arg)
		l = append(l, slot{arg, func() string { return show(*arg) }, func() { *arg = a("spoilt") }})
		l = append(l, inner...)
	}
	return l
}

// slots returns the slots of bindings and terms.
func slots(s []api.Binding, terms ...api.Term) []slot {
	var l []slot
	s = s[:cap(s)]
	for k := range s {
		b := &s[k]
		inner := termSlots(b.To)
		l = append(l, slot{b, func() string { return fmt.Sprint(b.Var, show(b.To)) }, func() { *b = bind(-1, a("spoilt")) }})
		l = append(l, inner...)
	}
	for _, t := range terms {
		l = append(l, termSlots(t)...)
	}
	return l
}

// call applies a function of the package and returns the bindings and the term of its result.
type call func(s []api.Binding, p, q api.Term) ([]api.Binding, api.Term)

func calls() map[string]call {
	return map[string]call{
		"Valid, Occurs": func(s []api.Binding, p, q api.Term) ([]api.Binding, api.Term) {
			Valid(s)
			Occurs(s, 4, p)
			return nil, api.Term{}
		},
		"Look":    func(s []api.Binding, p, q api.Term) ([]api.Binding, api.Term) { return nil, Look(s, p) },
		"Look, 2": func(s []api.Binding, p, q api.Term) ([]api.Binding, api.Term) { return nil, Look(s, q) },
		"Resolve": func(s []api.Binding, p, q api.Term) ([]api.Binding, api.Term) {
			r, _ := Resolve(s, p)
			return nil, r
		},
		"Resolve, 2": func(s []api.Binding, p, q api.Term) ([]api.Binding, api.Term) {
			r, _ := Resolve(s, q)
			return nil, r
		},
		"Unify": func(s []api.Binding, p, q api.Term) ([]api.Binding, api.Term) {
			r, _ := Unify(s, p, q)
			return r, api.Term{}
		},
		"Match": func(s []api.Binding, p, q api.Term) ([]api.Binding, api.Term) {
			r, _ := Match(p, q)
			return r, api.Term{}
		},
	}
}

// operands are arguments of the calls.
type operands struct {
	s    []api.Binding
	p, q api.Term
}

// roomyOperands returns operands with spare capacity everywhere; no two slices of one of them share memory.
func roomyOperands() []operands {
	l := []operands{
		{list(0, s("f", x(1), x(1)), s("g", x(5))), x(0), s("f", s("g", a("a")), x(8))}, {nil, s("f", x(0), x(1), x(0)), s("f", s("g", x(2)), s("h", a("a")), s("g", x(2)))},
		{list(3, a("a"), x(3)), s("f", x(4), x(9), x(8)), s("f", x(4), s("h", x(3), x(3)), x(7))}, {list(0, a("a")), x(0), a("a")}, {nil, x(2), x(1)}, {nil, x(0), i(7)}, {list(5, i(1)), s("f", a("a")), s("f", a("b"))},
		{list(0, s("f", a("a"))), s("h", x(1), x(2)), s("h", x(0), x(0))}, {nil, s("h", x(1), x(2), x(3)), s("h", x(4), x(4), s("g", x(4)))}, {list(9, x(9)), x(1), s("f", a("a"))}, {nil, x(0), s("f", x(0))},
	}
	for k, o := range l {
		l[k] = operands{roomyBindings(o.s), roomy(o.p), roomy(o.q)}
	}
	return l
}

// P5.6, R4: arguments, their spare capacity included, remain as they are.
func TestArgumentsAreNotModified(t *testing.T) {
	for name, f := range calls() {
		for k, o := range roomyOperands() {
			all := slots(o.s, o.p, o.q)
			var before []string
			for _, one := range all {
				before = append(before, one.shown())
			}
			f(o.s, o.p, o.q)
			for m, one := range all {
				if one.shown() != before[m] {
					t.Errorf("%s has changed operand %d: %s, not %s", name, k, one.shown(), before[m])
				}
			}
		}
	}
}

// P5.6, R4: no two slices of the arguments and of the result overlap.
func TestResultsShareNoMemory(t *testing.T) {
	for name, f := range calls() {
		for k, o := range roomyOperands() {
			taken := map[any]bool{}
			for _, one := range slots(o.s, o.p, o.q) {
				taken[one.address] = true
			}
			for _, one := range slots(f(o.s, o.p, o.q)) {
				if taken[one.address] {
					t.Errorf("%s shares memory: operand %d", name, k)
				}
				taken[one.address] = true
			}
		}
	}
}

// P5.6: arguments whose parts share memory have results that share none.
func TestSharingEnds(t *testing.T) {
	part := s("g", x(5), s("h", x(6)))
	o := operands{list(0, part, s("f", part, part)), s("f", x(2), x(3), x(0), x(1)), s("f", part, part, x(0), s("f", part, x(4)))}
	for name, f := range calls() {
		taken := map[any]bool{}
		for _, one := range slots(f(o.s, o.p, o.q)) {
			if taken[one.address] {
				t.Fatalf("%s shares memory", name)
			}
			taken[one.address] = true
		}
	}
}

// P5.6: results are not kept, either: a result that is overwritten changes no later one, and neither does an argument that is.
func TestNothingIsKept(t *testing.T) {
	for name, f := range calls() {
		for k, o := range roomyOperands() {
			r, u := f(o.s, o.p, o.q)
			for _, one := range slots(r, u) {
				one.spoil()
			}
			again, v := f(o.s, o.p, o.q)
			for _, one := range slots(o.s, o.p, o.q) {
				one.spoil()
			}
			o = roomyOperands()[k]
			want, w := f(o.s, o.p, o.q)
			if !equalBindings(again, want) || !equal(v, w) {
				t.Errorf("%s keeps something: operand %d", name, k)
			}
		}
	}
}
