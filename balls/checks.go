package balls

import (
	"slices"

	"hornbeam/api"
	"hornbeam/term"
)

// The structures that the checks look for, and the atom at the end of a list.
const (
	consName       = "."
	consArity      = 2
	emptyName      = "[]"
	indicatorName  = "/"
	indicatorArity = 2
)

// maxCode is the greatest character code.
const maxCode = 255

// Atom and the other checks return the value, or the ball and false.
func Atom(t api.Term) (name string, ball api.Term, ok bool) {
	ball, ok = check(t, t.Kind == api.KindAtom, "atom")
	if !ok {
		return "", ball, false
	}
	return t.Name, api.Term{}, true
}

func Int(t api.Term) (n int64, ball api.Term, ok bool) {
	ball, ok = check(t, t.Kind == api.KindInt, "integer")
	if !ok {
		return 0, ball, false
	}
	return t.N, api.Term{}, true
}

func Callable(t api.Term) (ball api.Term, ok bool) {
	return check(t, t.Kind != api.KindInt, "callable")
}

func Atomic(t api.Term) (ball api.Term, ok bool) {
	return check(t, t.Kind != api.KindStruct, "atomic")
}

func List(t api.Term) (l []api.Term, ball api.Term, ok bool) {
	if !term.Valid(t) {
		return nil, api.Term{}, false
	}
	rest := t
elements:
	for {
		switch {
		case isStruct(rest, consName, consArity):
			l = append(l, term.Clone(rest.Args[0]))
			rest = rest.Args[1]
		case rest.Kind == api.KindVar:
			return nil, Inst(), false
		case rest.Kind == api.KindAtom && rest.Name == emptyName:
			break elements
		default:
			return nil, Type("list", t), false
		}
	}
	return l, api.Term{}, true
}

func Char(t api.Term) (c int, ball api.Term, ok bool) {
	ball, ok = check(t, t.Kind == api.KindAtom && len(t.Name) == 1, "character")
	if !ok {
		return 0, ball, false
	}
	return int(t.Name[0]), api.Term{}, true
}

func Code(t api.Term) (c int, ball api.Term, ok bool) {
	n, ball, ok := Int(t)
	switch {
	case !ok:
		return 0, ball, false
	case n < 0 || n > maxCode:
		return 0, Representation("character_code"), false
	}
	return int(n), api.Term{}, true
}

func Indicator(t api.Term) (name string, arity int, ball api.Term, ok bool) {
	ball, ok = check(t, isStruct(t, indicatorName, indicatorArity), "predicate_indicator")
	if !ok {
		return "", 0, ball, false
	}
	// A variable in the place of the arity takes precedence over a name that is no atom.
	if slices.ContainsFunc(t.Args, isVariable) {
		return "", 0, Inst(), false
	}
	name, ball, ok = Atom(t.Args[0])
	if !ok {
		return "", 0, ball, false
	}
	arity, ball, ok = arityOf(t.Args[1])
	if !ok {
		return "", 0, ball, false
	}
	return name, arity, api.Term{}, true
}

// arityOf checks the arity of an indicator.
func arityOf(t api.Term) (arity int, ball api.Term, ok bool) {
	n, ball, ok := Int(t)
	switch {
	case !ok:
		return 0, ball, false
	case n < 0:
		return 0, Domain("not_less_than_zero", t), false
	case n > api.MaxArity:
		return 0, Representation("max_arity"), false
	}
	return int(n), api.Term{}, true
}

// check passes a valid term that is no variable, if it is of the kind that is asked for.
func check(t api.Term, asked bool, kind string) (ball api.Term, ok bool) {
	switch {
	case !term.Valid(t):
		return api.Term{}, false
	case isVariable(t):
		return Inst(), false
	case !asked:
		return Type(kind, t), false
	}
	return api.Term{}, true
}

func isVariable(t api.Term) bool {
	return t.Kind == api.KindVar
}
