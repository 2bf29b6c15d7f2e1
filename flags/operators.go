package flags

import (
	"iter"

	"hornbeam/api"
	"hornbeam/balls"
	"hornbeam/ops"
	"hornbeam/term"
)

// maxPriority is the greatest priority of an operator.
const maxPriority = 1200

// The atom at the end of a list, and the operator that is predefined for good.
const (
	emptyName = "[]"
	commaName = ","
)

// checkOp checks the arguments of op/3, and checkCurrentOp those of current_op/3.
func checkOp(args []api.Term) (ball api.Term, ok bool) {
	priority, specifier, which := args[0], args[1], args[2]
	_, end := term.Elems(which)
	_, unbound := findName(which, isVar)
	switch {
	case isVar(priority) || isVar(specifier) || isVar(end) || unbound:
		return balls.Inst(), false
	case priority.Kind != api.KindInt:
		return balls.Type("integer", priority), false
	case !isAtom(specifier):
		return balls.Type("atom", specifier), false
	case !isAtom(which) && !isEmptyList(end):
		return balls.Type("list", which), false
	}
	other, found := findName(which, func(t api.Term) bool { return !isAtom(t) })
	if found {
		return balls.Type("atom", other), false
	}
	return checkOperator(priority, specifier)
}

func checkCurrentOp(args []api.Term) (ball api.Term, ok bool) {
	priority, specifier, name := args[0], args[1], args[2]
	if ball, ok = checkOperator(priority, specifier); !ok {
		return ball, false
	}
	if !isVar(name) && !isAtom(name) {
		return balls.Type("atom", name), false
	}
	return api.Term{}, true
}

// checkOperator accepts variables, too.
func checkOperator(priority, specifier api.Term) (ball api.Term, ok bool) {
	switch {
	case !isVar(priority) && !isPriority(priority):
		return balls.Domain("operator_priority", priority), false
	case !isVar(specifier) && !isSpecifier(specifier):
		return balls.Domain("operator_specifier", specifier), false
	}
	return api.Term{}, true
}

// setOps executes op/3.
func setOps(s api.Syntax, args []api.Term) (t api.Syntax, ball api.Term, e api.Errno) {
	typ, _ := ops.TypeOf(args[1].Name)
	for name := range names(args[2]) {
		s.Ops, e = ops.Set(s.Ops, int(args[0].N), typ, name.Name)
		switch e {
		case api.OK:
		case api.ErrState:
			return api.Syntax{}, forbidden(name), api.ErrBall
		default:
			return api.Syntax{}, api.Term{}, e
		}
	}
	return s, api.Term{}, api.OK
}

// listOps executes current_op/3.
func listOps(s api.Syntax, args []api.Term) (rows [][]api.Term) {
	for _, op := range s.Ops {
		specifier, _ := ops.TypeName(op.Type)
		rows = append(rows, []api.Term{term.Int(int64(op.Prec)), term.Atom(specifier), term.Atom(op.Name)})
	}
	return rows
}

// names produces the names of operators that the third argument of op/3 stands for.
func names(which api.Term) iter.Seq[api.Term] {
	return func(yield func(name api.Term) bool) {
		if isAtom(which) && !isEmptyList(which) {
			yield(which)
			return
		}
		elements, end := term.Elems(which)
		if !isEmptyList(end) {
			return
		}
		for _, name := range elements {
			if !yield(name) {
				return
			}
		}
	}
}

// findName returns the first of the names for which is holds.
func findName(which api.Term, is func(t api.Term) bool) (name api.Term, found bool) {
	for t := range names(which) {
		if is(t) {
			return t, true
		}
	}
	return api.Term{}, false
}

// forbidden returns the ball for a name whose operators may not be set.
func forbidden(name api.Term) api.Term {
	if name.Name == commaName {
		return balls.Permission("modify", "operator", name)
	}
	return balls.Permission("create", "operator", name)
}

func isEmptyList(t api.Term) bool {
	return isAtom(t) && t.Name == emptyName
}

func isPriority(t api.Term) bool {
	return t.Kind == api.KindInt && t.N >= 0 && t.N <= maxPriority
}

func isSpecifier(t api.Term) bool {
	_, ok := ops.TypeOf(t.Name)
	return ok && isAtom(t)
}
