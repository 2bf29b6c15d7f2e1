package ops

import (
	"cmp"
	"math"
	"slices"
	"strconv"
	"strings"

	"hornbeam/api"
)

func op(prec, typ int, name string) api.Op {
	return api.Op{Name: name, Type: typ, Prec: prec}
}

// longest is the longest name.
func longest() string {
	return strings.Repeat("x", api.MaxName)
}

// samples are names with and without operators in the tables of the tests, and names to which special rules apply.
func samples() []string {
	return []string{"", "+", "-", "*", "**", "a", "ab", "b", "B", "is", "rem", "none", "\\", "\x00", "\xff", ",", "|", "[]", "{}", "[", "{", "||", ",,", longest()}
}

// tooLong are strings that are not names.
func tooLong() []string {
	return []string{longest() + "x", longest() + "\x00", strings.Repeat("x", 1<<20)}
}

func allTypes() []int {
	return []int{api.XFX, api.XFY, api.YFX, api.FY, api.FX, api.XF, api.YF}
}

// notTypes are integers that are not types; some would be if they were cut to fewer bits.
func notTypes() []int {
	return []int{0, -1, 8, 9, -7, 256 + api.FY, 1<<32 + api.XFX, math.MinInt, math.MinInt + api.XFX, math.MaxInt}
}

// priorities are priorities at the limits of the rules and between them.
func priorities() []int {
	return []int{0, 1, 2, 700, 999, 1000, 1001, 1002, 1199, 1200}
}

// notPriorities are integers that are not priorities; some would be if they were cut to fewer bits.
func notPriorities() []int {
	return []int{-1, -1000, 1201, 65536 + 700, 1<<32 + 1000, math.MinInt, math.MinInt + 1, math.MaxInt}
}

// class is the place of a type's class among prefix 1, infix 2 and postfix 3, as the chapter states it.
func class(typ int) int {
	switch typ {
	case api.FY, api.FX:
		return 1
	case api.XFX, api.XFY, api.YFX:
		return 2
	case api.XF, api.YF:
		return 3
	}
	return 0
}

// full is a table without room for another name, in which the first name has one prefix operator.
func full() []api.Op {
	var l []api.Op
	for i := range api.MaxOps {
		l = append(l, op(1+i, allTypes()[(i+3)%7], "n"+strconv.Itoa(100+i)))
	}
	return l
}

func validTables() [][]api.Op {
	return [][]api.Op{
		nil,
		{},
		Default(),
		full(),
		full()[:api.MaxOps-1],
		{op(1, api.FX, "a"), op(1200, api.XFX, "a")},
		{op(200, api.FY, "a"), op(300, api.YF, "a")},
		{op(200, api.FY, "a"), op(300, api.XF, "ab"), op(700, api.XFX, "b")},
		{op(1, api.FX, ""), op(2, api.XF, ""), op(1200, api.FY, "B"), op(3, api.YFX, "b"), op(4, api.FY, longest()), op(5, api.XFY, longest()), op(6, api.YF, "\xff")},
		{op(1000, api.XFY, ",")},
		{op(1001, api.XFX, "|")},
		{op(7, api.YFX, "*"), op(1000, api.XFY, ","), op(200, api.FX, "is"), op(700, api.YF, "is"), op(1200, api.YFX, "|")},
		{op(1, api.FX, "["), op(1, api.FX, "]"), op(1, api.FX, "{"), op(1, api.XFX, "||")},
	}
}

func invalidTables() [][]api.Op {
	good := op(400, api.YFX, "b")
	return [][]api.Op{
		append(full(), op(1, api.FX, "z")),
		make([]api.Op, 1),
		{good, good},
		{good, op(500, api.YFX, "b")},
		{good, op(400, api.XFX, "b")},
		{good, op(400, api.FY, "b")},
		{good, op(400, api.YF, "b")},
		{good, op(400, api.YFX, "a")},
		{good, op(400, api.YFX, "B")},
		{good, op(400, api.YFX, "")},
		{op(400, api.YFX, "ba"), good},
		{op(1, api.FX, "b"), op(1, api.FY, "b")},
		{op(1, api.XF, "b"), op(1, api.YF, "b")},
		{op(1, api.XF, "b"), op(1, api.FY, "b")},
		{op(1, api.FX, "b"), good, op(1, api.XF, "b")},
		{op(1, api.FX, "a"), op(1, api.FX, "c"), op(1, api.FX, "b"), op(1, api.FX, "d")},
		{op(1, api.FX, "a"), op(1, api.FX, "c"), op(1, api.FX, "d"), op(1, api.FX, "b")},
		{good, op(0, api.FX, "c")},
		{good, op(1, 8, "c")},
		{op(-1, api.FX, "a"), good},
		{good, op(1, api.FX, tooLong()[0])},
		{op(1000, api.XFX, ","), good},
		{op(999, api.XFY, ","), good},
		{op(1000, api.FY, ","), op(1000, api.XFY, ","), good},
		{good, op(1000, api.XFX, "|")},
		{good, op(1100, api.FY, "|")},
		{good, op(1100, api.FY, "|"), op(1100, api.XFY, "|")},
		{op(200, api.FY, "[]"), good},
		{good, op(700, api.XFX, "{}")},
	}
}

// without returns the operators of a table that are not of a type's class or have another name.
func without(l []api.Op, typ int, name string) []api.Op {
	var rest []api.Op
	for _, o := range l {
		if o.Name != name || class(o.Type) != class(typ) {
			rest = append(rest, o)
		}
	}
	return rest
}

// ordered returns operators in the order of a table, by sorting them.
func ordered(l []api.Op) []api.Op {
	l = slices.Clone(l)
	slices.SortFunc(l, func(a, b api.Op) int {
		return cmp.Or(slices.Compare([]byte(a.Name), []byte(b.Name)), cmp.Compare(class(a.Type), class(b.Type)))
	})
	return l
}

// having returns the operator of a class with a name, found without a search.
func having(l []api.Op, place int, name string) (api.Op, bool) {
	for _, o := range l {
		if o.Name == name && class(o.Type) == place {
			return o, true
		}
	}
	return api.Op{}, false
}
