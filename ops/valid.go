package ops

import "hornbeam/api"

const maxPrec = 1200

// The names to which special rules apply: the comma has exactly one operator, the bar only infix ones from leastBar on, the others none.
const (
	comma       = ","
	commaPrec   = 1000
	bar         = "|"
	leastBar    = commaPrec + 1
	emptyList   = "[]"
	emptyBraces = "{}"
)

// Valid reports whether an operator table is valid.
func Valid(l []api.Op) (ok bool) {
	if len(l) > api.MaxOps {
		return false
	}
	for i, op := range l {
		if !isValid(op) || i > 0 && !mayFollow(l[i-1], op) {
			return false
		}
	}
	return true
}

// isValid reports whether an operator is valid.
func isValid(op api.Op) bool {
	class := classOf(op.Type)
	if class == noClass || !isName(op.Name) || !isPriority(op.Prec) || op.Prec == 0 {
		return false
	}
	switch op.Name {
	case comma:
		return op.Type == api.XFY && op.Prec == commaPrec
	case bar:
		return class == infix && op.Prec >= leastBar
	case emptyList, emptyBraces:
		return false
	}
	return true
}

// mayFollow reports whether a table can have a valid operator directly after another one.
func mayFollow(before, op api.Op) bool {
	class := classOf(op.Type)
	if before.Name == op.Name && classOf(before.Type) == rival(class) {
		return false
	}
	return compare(before, op.Name, class) < 0
}

// isName reports whether an operator can have this name, apart from the special rules.
func isName(name string) bool {
	return len(name) <= api.MaxName
}

// isPriority reports whether an operator can be set to this priority, apart from the special rules.
func isPriority(prec int) bool {
	return 0 <= prec && prec <= maxPrec
}
