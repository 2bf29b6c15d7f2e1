package flags

import (
	"hornbeam/api"
	"hornbeam/balls"
	"hornbeam/term"
)

// checkFlag checks the arguments of set_prolog_flag/2 as far as they are independent of each other, and checkCurrentFlag those of current_prolog_flag/2.
func checkFlag(args []api.Term) (ball api.Term, ok bool) {
	if isVar(args[0]) || isVar(args[1]) {
		return balls.Inst(), false
	}
	return checkCurrentFlag(args)
}

func checkCurrentFlag(args []api.Term) (ball api.Term, ok bool) {
	if isVar(args[0]) {
		return api.Term{}, true
	}
	name, ball, ok := balls.Atom(args[0])
	if !ok {
		return ball, false
	}
	if _, ok = find(name); !ok {
		return balls.Domain("prolog_flag", args[0]), false
	}
	return api.Term{}, true
}

// setFlag executes set_prolog_flag/2.
func setFlag(s api.Syntax, args []api.Term) (t api.Syntax, ball api.Term, e api.Errno) {
	s.Flags, e = Set(s.Flags, args[0].Name, args[1])
	switch e {
	case api.OK:
		return s, api.Term{}, api.OK
	case api.ErrState:
		return api.Syntax{}, balls.Permission("modify", "flag", args[0]), api.ErrBall
	}
	return api.Syntax{}, balls.Domain("flag_value", term.Struct("+", args...)), api.ErrBall
}

// listFlags executes current_prolog_flag/2.
func listFlags(s api.Syntax, args []api.Term) (rows [][]api.Term) {
	for _, x := range table() {
		if isVar(args[0]) || x.name == args[0].Name {
			rows = append(rows, []api.Term{term.Atom(x.name), x.value(s.Flags)})
		}
	}
	return rows
}
