package subst

import (
	"slices"

	"hornbeam/api"
	"hornbeam/term"
)

// Unify returns the bindings extended by a most general unifier.
func Unify(s []api.Binding, a, b api.Term) (r []api.Binding, e api.Errno) {
	if !Valid(s) || !term.Valid(a) || !term.Valid(b) {
		return nil, api.ErrArg
	}
	u := unification{bindings: bindings{given: s, made: map[int64]api.Term{}}}
	e = u.run(a, b)
	if e != api.OK {
		return nil, e
	}
	return u.bindings.all(), api.OK
}

// Match reports whether a term is an instance of a pattern.
func Match(pattern, t api.Term) (s []api.Binding, ok bool) {
	if !term.Valid(pattern) || !term.Valid(t) {
		return nil, false
	}
	b := bindings{made: map[int64]api.Term{}}
	if !b.match(pattern, t) {
		return nil, false
	}
	return b.all(), true
}

// unification is the state of a unification. Its methods panic with the error with which it ends early.
type unification struct {
	bindings  bindings
	processed int
}

// pairs are pairs of terms: the first of a and the first of b, and so on.
type pairs struct {
	a, b []api.Term
}

// run unifies two valid terms and returns the error with which that ends.
func (u *unification) run(a, b api.Term) (e api.Errno) {
	defer func() {
		if end := recover(); end != nil {
			e = end.(api.Errno)
		}
	}()
	// A stack of its own, instead of recursion: bindings can make terms that are as deep as the number of pairs allows.
	stack := []pairs{{[]api.Term{a}, []api.Term{b}}}
	for len(stack) > 0 {
		top := &stack[len(stack)-1]
		p, q := top.a[0], top.b[0]
		top.a, top.b = top.a[1:], top.b[1:]
		if len(top.a) == 0 {
			stack = stack[:len(stack)-1]
		}
		if args := u.process(p, q); len(args.a) > 0 {
			stack = append(stack, args)
		}
	}
	return api.OK
}

// process processes a pair and returns the pairs of arguments that have to be processed next.
func (u *unification) process(a, b api.Term) (args pairs) {
	if u.processed == api.MaxSteps {
		panic(api.ErrLong)
	}
	u.processed++
	a, b = u.bindings.follow(a), u.bindings.follow(b)
	switch {
	case a.Kind == api.KindVar && b.Kind == api.KindVar:
		u.join(a, b)
	case a.Kind == api.KindVar:
		u.bind(a, b)
	case b.Kind == api.KindVar:
		u.bind(b, a)
	case haveSameRoot(a, b):
		return pairs{a.Args, b.Args}
	default:
		panic(api.ErrNone)
	}
	return pairs{}
}

// join binds the one of two unbound variables that has the greater number to the other one.
func (u *unification) join(v, w api.Term) {
	switch {
	case v.N > w.N:
		u.bindings.made[v.N] = w
	case v.N < w.N:
		u.bindings.made[w.N] = v
	}
}

// bind binds an unbound variable to a term that is no variable.
func (u *unification) bind(v, t api.Term) {
	if u.bindings.variables(t)[v.N] {
		panic(api.ErrOccurs)
	}
	u.bindings.made[v.N] = t
}

// match makes the bindings by which a term results from a pattern, and reports whether there are such bindings.
func (b bindings) match(pattern, t api.Term) bool {
	if pattern.Kind != api.KindVar {
		return haveSameRoot(pattern, t) && slices.EqualFunc(pattern.Args, t.Args, b.match)
	}
	to, bound := b.made[pattern.N]
	if bound {
		return term.Same(to, t)
	}
	b.made[pattern.N] = t
	return true
}

// haveSameRoot reports whether two valid terms are the same apart from their arguments, and have as many of these.
func haveSameRoot(a, b api.Term) bool {
	// The fields that a kind does not use are zero, so that they need not be left out.
	return a.Kind == b.Kind && a.N == b.N && a.Name == b.Name && len(a.Args) == len(b.Args)
}
