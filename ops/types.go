package ops

import "hornbeam/api"

// The classes of operators, in the order in which a table has the operators of a name.
const (
	noClass = 0
	prefix  = 1
	infix   = 2
	postfix = 3
)

// classes and typeNames have the class and the name of each type at its number; no type has the number 0.
var (
	classes   = [...]int{noClass, infix, infix, infix, prefix, prefix, postfix, postfix}
	typeNames = [...]string{"", "xfx", "xfy", "yfx", "fy", "fx", "xf", "yf"}
)

// Sides returns the greatest priorities of an operator's left and right operands.
func Sides(op api.Op) (left, right int) {
	if !isPriority(op.Prec) || op.Prec == 0 {
		return 0, 0
	}
	x, y := op.Prec-1, op.Prec
	switch op.Type {
	case api.XFX:
		return x, x
	case api.XFY:
		return x, y
	case api.YFX:
		return y, x
	case api.FY:
		return 0, y
	case api.FX:
		return 0, x
	case api.XF:
		return x, 0
	case api.YF:
		return y, 0
	}
	return 0, 0
}

// TypeName and TypeOf convert types of operators.
func TypeName(typ int) (name string, ok bool) {
	if classOf(typ) == noClass {
		return "", false
	}
	return typeNames[typ], true
}

func TypeOf(name string) (typ int, ok bool) {
	for typ = api.XFX; typ <= api.YF; typ++ {
		if typeNames[typ] == name {
			return typ, true
		}
	}
	return 0, false
}

// classOf returns the class of the operators of a type, or noClass if there is no such type.
func classOf(typ int) int {
	if typ < 0 || typ >= len(classes) {
		return noClass
	}
	return classes[typ]
}

// rival returns the class that a name cannot have beside this one, or noClass.
func rival(class int) int {
	switch class {
	case infix:
		return postfix
	case postfix:
		return infix
	}
	return noClass
}
