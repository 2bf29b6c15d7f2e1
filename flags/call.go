package flags

import (
	"slices"

	"hornbeam/api"
	"hornbeam/term"
)

// indicator is the name and the arity of a predicate.
type indicator struct {
	name  string
	arity int
}

// predicate is a predicate that changes the syntax, so that its answer is the goal itself, or one that lists a part of it; the function for the other is nil. Both are called only with arguments that check accepts.
type predicate struct {
	check  func(args []api.Term) (ball api.Term, ok bool)
	change func(s api.Syntax, args []api.Term) (t api.Syntax, ball api.Term, e api.Errno)
	list   func(s api.Syntax, args []api.Term) (rows [][]api.Term)
}

func predicates() map[indicator]predicate {
	return map[indicator]predicate{
		{"op", 3}:                      {check: checkOp, change: setOps},
		{"current_op", 3}:              {check: checkCurrentOp, list: listOps},
		{"char_conversion", 2}:         {check: checkConversion, change: setConversion},
		{"current_char_conversion", 2}: {check: checkCurrentConversion, list: listConversions},
		{"set_prolog_flag", 2}:         {check: checkFlag, change: setFlag},
		{"current_prolog_flag", 2}:     {check: checkCurrentFlag, list: listFlags},
	}
}

// Has reports whether Call executes a predicate.
func Has(name string, arity int) (ok bool) {
	_, ok = predicates()[indicator{name, arity}]
	return ok
}

// Call executes op/3, current_op/3, char_conversion/2, current_char_conversion/2, set_prolog_flag/2 and current_prolog_flag/2.
func Call(s api.Syntax, goal api.Term) (t api.Syntax, answers []api.Term, ball api.Term, e api.Errno) {
	if !ValidSyntax(s) || !isCanonical(goal) {
		return api.Syntax{}, nil, api.Term{}, api.ErrArg
	}
	// A variable or an integer has neither a name nor arguments, and no predicate has the empty name.
	p, ok := predicates()[indicator{goal.Name, len(goal.Args)}]
	if !ok {
		return api.Syntax{}, nil, api.Term{}, api.ErrNone
	}
	if ball, ok = p.check(goal.Args); !ok {
		return api.Syntax{}, nil, ball, api.ErrBall
	}
	if p.list != nil {
		return copied(s), structs(goal.Name, p.list(s, goal.Args)), api.Term{}, api.OK
	}
	changed, ball, e := p.change(s, goal.Args)
	if e != api.OK {
		return api.Syntax{}, nil, ball, e
	}
	return copied(changed), []api.Term{term.Clone(goal)}, api.Term{}, api.OK
}

func isCanonical(t api.Term) bool {
	return term.Valid(t) && term.Same(t, term.Canon(t))
}

// copied returns a copy of a syntax that shares no memory with it.
func copied(s api.Syntax) api.Syntax {
	s.Ops = slices.Clone(s.Ops)
	s.Conv = slices.Clone(s.Conv)
	return s
}

// structs returns the structures that have a name and these arguments.
func structs(name string, rows [][]api.Term) (l []api.Term) {
	for _, args := range rows {
		l = append(l, term.Struct(name, args...))
	}
	return l
}

func isVar(t api.Term) bool {
	return t.Kind == api.KindVar
}

func isAtom(t api.Term) bool {
	return t.Kind == api.KindAtom
}
