package flags

import (
	"slices"

	"hornbeam/api"
	"hornbeam/chars"
	"hornbeam/ops"
)

// meaning is a second way to execute a predicate, in the words of the chapter: the checks are listed, and the first that fails determines the outcome.
func meaning(syntax api.Syntax, goal api.Term) outcome {
	var checks []check
	var execute func() outcome
	switch {
	case isGoal(goal, "op", 3):
		checks, execute = meaningOfOp(syntax, goal)
	case isGoal(goal, "current_op", 3):
		checks, execute = meaningOfCurrentOp(syntax, goal)
	case isGoal(goal, "char_conversion", 2):
		checks, execute = meaningOfConversion(syntax, goal)
	case isGoal(goal, "current_char_conversion", 2):
		checks, execute = meaningOfCurrentConversion(syntax, goal)
	case isGoal(goal, "set_prolog_flag", 2):
		checks, execute = meaningOfFlag(syntax, goal)
	case isGoal(goal, "current_prolog_flag", 2):
		checks, execute = meaningOfCurrentFlag(syntax, goal)
	default:
		return outcome{e: api.ErrNone}
	}
	for _, c := range checks {
		if c.fails {
			return c.with
		}
	}
	return execute()
}

// check is a check that may fail, and the outcome with which it does.
type check struct {
	fails bool
	with  outcome
}

func isGoal(t api.Term, name string, arity int) bool {
	return t.Kind == api.KindStruct && t.Name == name && len(t.Args) == arity
}

func isOf(kind int, t api.Term) bool { return t.Kind == kind }

// elements returns the elements of a list, a partial list, or what begins like one, and what follows them.
func elements(t api.Term) ([]api.Term, api.Term) {
	if !isGoal(t, ".", 2) {
		return nil, t
	}
	rest, end := elements(t.Args[1])
	return append([]api.Term{t.Args[0]}, rest...), end
}

func specifiers() []string { return []string{"", "xfx", "xfy", "yfx", "fy", "fx", "xf", "yf"} }

func isType(t api.Term) bool {
	return isOf(api.KindAtom, t) && t.Name != "" && slices.Contains(specifiers(), t.Name)
}

func isPrec(t api.Term) bool { return isOf(api.KindInt, t) && 0 <= t.N && t.N <= 1200 }

func meaningOfOp(syntax api.Syntax, goal api.Term) ([]check, func() outcome) {
	p, typ, n := goal.Args[0], goal.Args[1], goal.Args[2]
	l, end := elements(n)
	isList, isPartial := equal(end, a("[]")), isOf(api.KindVar, end)
	if isOf(api.KindAtom, n) && n.Name != "[]" {
		l = []api.Term{n}
	}
	var unbound, other bool
	var culprit api.Term
	for _, name := range l {
		unbound = unbound || isOf(api.KindVar, name)
		if !other && !isOf(api.KindAtom, name) {
			other, culprit = true, name
		}
	}
	return []check{
		{isOf(api.KindVar, p) || isOf(api.KindVar, typ) || isPartial || isList && unbound, raised("instantiation_error")},
		{!isOf(api.KindInt, p), raised("type_error", a("integer"), p)},
		{!isOf(api.KindAtom, typ), raised("type_error", a("atom"), typ)},
		{!isList && !isOf(api.KindAtom, n), raised("type_error", a("list"), n)},
		{other, raised("type_error", a("atom"), culprit)},
		{!isPrec(p), raised("domain_error", a("operator_priority"), p)},
		{!isType(typ), raised("domain_error", a("operator_specifier"), typ)},
	}, func() outcome { return setAll(syntax, goal, l) }
}

// setAll sets operators with these names one after the other.
func setAll(syntax api.Syntax, goal api.Term, names []api.Term) outcome {
	for _, name := range names {
		table, e := ops.Set(syntax.Ops, int(goal.Args[0].N), slices.Index(specifiers(), goal.Args[1].Name), name.Name)
		switch {
		case e == api.ErrState && name.Name == ",":
			return raised("permission_error", a("modify"), a("operator"), name)
		case e == api.ErrState:
			return raised("permission_error", a("create"), a("operator"), name)
		case e != api.OK:
			return outcome{e: e}
		}
		syntax.Ops = table
	}
	return one(syntax, goal)
}

func meaningOfCurrentOp(syntax api.Syntax, goal api.Term) ([]check, func() outcome) {
	p, typ, n := goal.Args[0], goal.Args[1], goal.Args[2]
	return []check{
		{!isOf(api.KindVar, p) && !isPrec(p), raised("domain_error", a("operator_priority"), p)},
		{!isOf(api.KindVar, typ) && !isType(typ), raised("domain_error", a("operator_specifier"), typ)},
		{!isOf(api.KindVar, n) && !isOf(api.KindAtom, n), raised("type_error", a("atom"), n)},
	}, func() outcome {
		var l []api.Term
		for _, o := range syntax.Ops {
			l = append(l, s("current_op", i(int64(o.Prec)), a(specifiers()[o.Type]), a(o.Name)))
		}
		return all(syntax, l)
	}
}

func isChar(t api.Term) bool { return isOf(api.KindAtom, t) && len(t.Name) == 1 }

func char(c int) api.Term { return a(string([]byte{byte(c)})) }

func meaningOfConversion(syntax api.Syntax, goal api.Term) ([]check, func() outcome) {
	from, to := goal.Args[0], goal.Args[1]
	return []check{
		{isOf(api.KindVar, from) || isOf(api.KindVar, to), raised("instantiation_error")},
		{!isChar(from), raised("type_error", a("character"), from)},
		{!isChar(to), raised("type_error", a("character"), to)},
	}, func() outcome {
		table, e := chars.Set(syntax.Conv, int(from.Name[0]), int(to.Name[0]))
		syntax.Conv = table
		return outcome{syntax: syntax, answers: []api.Term{goal}, e: e}
	}
}

func meaningOfCurrentConversion(syntax api.Syntax, goal api.Term) ([]check, func() outcome) {
	from, to := goal.Args[0], goal.Args[1]
	return []check{
		{!isOf(api.KindVar, from) && !isChar(from), raised("type_error", a("character"), from)},
		{!isOf(api.KindVar, to) && !isChar(to), raised("type_error", a("character"), to)},
	}, func() outcome {
		if isOf(api.KindAtom, from) {
			return one(syntax, s("current_char_conversion", from, char(image(syntax.Conv, int(from.Name[0])))))
		}
		var l []api.Term
		for _, p := range syntax.Conv {
			l = append(l, s("current_char_conversion", char(p.From), char(p.To)))
		}
		return all(syntax, l)
	}
}

// image returns the character to which a table maps a character.
func image(table []api.Pair, c int) int {
	for _, p := range table {
		if p.From == c {
			return p.To
		}
	}
	return c
}

func meaningOfFlag(syntax api.Syntax, goal api.Term) ([]check, func() outcome) {
	f, v := goal.Args[0], goal.Args[1]
	g, e := changed(syntax.Flags, f.Name, v)
	return []check{
		{isOf(api.KindVar, f) || isOf(api.KindVar, v), raised("instantiation_error")},
		{!isOf(api.KindAtom, f), raised("type_error", a("atom"), f)},
		{e == api.ErrNone, raised("domain_error", a("prolog_flag"), f)},
		{e == api.ErrState, raised("permission_error", a("modify"), a("flag"), f)},
		{e == api.ErrForm, raised("domain_error", a("flag_value"), s("+", f, v))},
	}, func() outcome {
		syntax.Flags = g
		return one(syntax, goal)
	}
}

func meaningOfCurrentFlag(syntax api.Syntax, goal api.Term) ([]check, func() outcome) {
	f := goal.Args[0]
	names, values := chapter(syntax.Flags)
	return []check{
		{!isOf(api.KindVar, f) && !isOf(api.KindAtom, f), raised("type_error", a("atom"), f)},
		{isOf(api.KindAtom, f) && !slices.Contains(names, f.Name), raised("domain_error", a("prolog_flag"), f)},
	}, func() outcome {
		var l []api.Term
		for k, name := range names {
			if isOf(api.KindVar, f) || f.Name == name {
				l = append(l, s("current_prolog_flag", a(name), values[k]))
			}
		}
		return all(syntax, l)
	}
}
