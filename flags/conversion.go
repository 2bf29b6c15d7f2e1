package flags

import (
	"hornbeam/api"
	"hornbeam/balls"
	"hornbeam/chars"
	"hornbeam/term"
)

// checkConversion checks the arguments of char_conversion/2, and checkCurrentConversion those of current_char_conversion/2.
func checkConversion(args []api.Term) (ball api.Term, ok bool) {
	if isVar(args[0]) || isVar(args[1]) {
		return balls.Inst(), false
	}
	return checkCurrentConversion(args)
}

func checkCurrentConversion(args []api.Term) (ball api.Term, ok bool) {
	for _, arg := range args {
		if isVar(arg) {
			continue
		}
		if _, ball, ok = balls.Char(arg); !ok {
			return ball, false
		}
	}
	return api.Term{}, true
}

// setConversion executes char_conversion/2.
func setConversion(s api.Syntax, args []api.Term) (t api.Syntax, ball api.Term, e api.Errno) {
	s.Conv, e = chars.Set(s.Conv, charOf(args[0]), charOf(args[1]))
	return s, api.Term{}, e
}

// listConversions executes current_char_conversion/2.
func listConversions(s api.Syntax, args []api.Term) (rows [][]api.Term) {
	if isAtom(args[0]) {
		return [][]api.Term{{args[0], charAtom(chars.Convert(s.Conv, charOf(args[0])))}}
	}
	for _, p := range s.Conv {
		rows = append(rows, []api.Term{charAtom(p.From), charAtom(p.To)})
	}
	return rows
}

// charOf returns the character that is the name of an atom.
func charOf(t api.Term) int {
	return int(t.Name[0])
}

// charAtom returns the atom whose name is a character: one byte, whatever the byte is.
func charAtom(c int) api.Term {
	return term.Atom(string([]byte{byte(c)}))
}
