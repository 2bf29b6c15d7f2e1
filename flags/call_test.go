package flags

import (
	"math"
	"slices"
	"strconv"
	"testing"

	"hornbeam/api"
	"hornbeam/ops"
)

// The arguments of goals, by their places. A variable is numbered when the goal is made.

func precs() []api.Term {
	return []api.Term{x(0), i(0), i(1), i(200), i(1000), i(1001), i(1200), i(1201), i(-1), i(1 << 32), i(1<<32 + 200), i(math.MinInt64), i(math.MaxInt64), a("200"), a("[]"), s("f", x(0)), s("-", i(1))}
}

func types() []api.Term {
	l := []api.Term{x(0), a("abc"), a(""), a("XFX"), a("xfxx"), a("[]"), i(1), s("xfx", i(1)), list(a("[]"), a("xfx")), list(x(0), a("xfx"))}
	for _, name := range specifiers()[1:] {
		l = append(l, a(name))
	}
	return l
}

func whichNames() []api.Term {
	end := a("[]")
	return []api.Term{
		x(0), a("in"), a("is"), a("a"), a("b"), a("n103"), a(","), a("|"), end, a("{}"), a(""), a("."), a("\xff"), a(longest()), i(3), s("f", x(0)), s(".", a("a")), s(".", a("a"), end, end),
		list(end, a("in")), list(end, a("&"), a("is")), list(end, a("&"), a("in"), a("a")), list(end, a(",")), list(end, a("in"), a(","), a("|")), list(end, end), list(end, a("in"), end, a(",")), list(end, a("in"), a("in")),
		list(end, x(0)), list(end, a("in"), x(0)), list(end, i(1), x(0), a("in")), list(end, a("in"), i(1), s("f", x(0))), list(end, s("f", x(0))), list(end, list(end, a("in"))), list(end, a(","), i(1)),
		list(x(0), a("in")), list(x(0), i(1)), list(a("b"), a("in")), list(a("b"), x(0)), list(a("b"), i(1)), list(i(1), a("in"), x(0)), list(s("f", x(0)), a("in")), list(s(".", end), a("in")),
	}
}

func charsAndOthers() []api.Term {
	return []api.Term{x(0), x(0), a("a"), a("b"), a("\x00"), a("\xff"), a("\xc3"), a("\xc3\xa4"), a(""), a("in"), a("[]"), a(longest()), i(97), s("a", x(0)), list(a("[]"), a("a")), chain(1998, i(1))}
}

func flagNames() []api.Term {
	l := []api.Term{x(0), i(1), s("debug", x(0)), list(a("[]"), a("debug"))}
	for _, name := range append(Names(), noFlags()[:10]...) {
		l = append(l, a(name))
	}
	return l
}

// smallValues are values that fit into a goal.
func smallValues() []api.Term {
	return slices.DeleteFunc(someValues(), func(t api.Term) bool { return count(t) > 100 })
}

// goals are canonical goals of all predicates; their arguments are all combinations of those above.
func goals() []api.Term {
	var l []api.Term
	for _, p := range precs() {
		for _, typ := range types() {
			for _, n := range whichNames() {
				l = append(l, numbered(s("op", p, typ, n)), numbered(s("current_op", p, typ, n)))
			}
		}
	}
	for _, from := range charsAndOthers() {
		for _, to := range charsAndOthers() {
			if count(from)+count(to) < 2000 {
				l = append(l, numbered(s("char_conversion", from, to)), numbered(s("current_char_conversion", from, to)))
			}
		}
	}
	for _, f := range flagNames() {
		for _, v := range smallValues() {
			l = append(l, numbered(s("set_prolog_flag", f, v)), numbered(s("current_prolog_flag", f, v)))
		}
	}
	return append(l, largeGoals()...)
}

// largeGoals are goals with culprits around the greatest size that fits into a ball.
func largeGoals() []api.Term {
	l := []api.Term{s("op", i(200), a("xfx"), list(a("[]"), slices.Repeat([]api.Term{a("in")}, 997)...)), s("op", i(200), a("xfx"), list(i(1), slices.Repeat([]api.Term{a("in")}, 997)...)), s("op", i(200), a("xf"), list(a("[]"), a("in"), chain(1990, x(0))))}
	for size := 1985; size <= 1998; size++ {
		for _, big := range []api.Term{chain(size, i(1)), chain(size, x(0))} {
			l = append(l, s("set_prolog_flag", a("unknown"), big), s("set_prolog_flag", big, a("on")), s("current_prolog_flag", big, a("on")), s("char_conversion", a("a"), big), s("char_conversion", big, a("a")))
			if size < 1998 {
				l = append(l, s("op", big, a("xfx"), a("in")), s("op", i(1), a("xfx"), big), s("op", i(1), big, a("in")), s("current_op", big, a("xfx"), a("in")), s("current_op", i(1), big, a("in")), s("current_op", i(1), a("xfx"), big))
			}
		}
	}
	return l
}

// numbered returns a term in which each occurrence of a variable is a variable of its own, numbered from 0.
func numbered(t api.Term) api.Term {
	next := int64(-1)
	var visit func(t api.Term) api.Term
	visit = func(t api.Term) api.Term {
		if t.Kind == api.KindVar {
			next++
			return x(next)
		}
		args := t.Args
		t.Args = nil
		for _, arg := range args {
			t.Args = append(t.Args, visit(arg))
		}
		return t
	}
	return visit(t)
}

// P8.5
func TestCall(t *testing.T) {
	results := map[string]int{}
	for _, syntax := range syntaxes() {
		for _, goal := range goals() {
			want := meaning(syntax, goal)
			checkCall(t, syntax, goal, want)
			kind := want.e.Error()
			if want.e == api.ErrBall {
				kind = want.ball.Args[0].Name
			}
			results[goal.Name+" "+kind]++
		}
	}
	for _, kind := range []string{"op error 0", "op error 13", "op instantiation_error", "op type_error", "op domain_error", "op permission_error", "current_op error 0", "current_op type_error", "current_op domain_error", "char_conversion error 0", "char_conversion instantiation_error", "char_conversion type_error", "current_char_conversion error 0", "current_char_conversion type_error", "set_prolog_flag error 0", "set_prolog_flag instantiation_error", "set_prolog_flag type_error", "set_prolog_flag domain_error", "set_prolog_flag permission_error", "current_prolog_flag error 0", "current_prolog_flag type_error", "current_prolog_flag domain_error"} {
		if results[kind] == 0 {
			t.Errorf("no goal has the result %s", kind)
		}
	}
}

// P8.5: the same variable stands in several places.
func TestGoalsWithEqualVariables(t *testing.T) {
	for _, syntax := range syntaxes() {
		for _, goal := range []api.Term{s("op", x(0), x(0), x(0)), s("current_op", x(0), x(0), x(0)), s("current_op", x(0), a("xfx"), x(0)), s("char_conversion", x(0), x(0)), s("current_char_conversion", x(0), x(0)), s("set_prolog_flag", x(0), x(0)), s("current_prolog_flag", x(0), x(0)), s("set_prolog_flag", a("debug"), s("f", x(0), x(1), x(0)))} {
			checkCall(t, syntax, goal, meaning(syntax, goal))
		}
	}
}

// P8.5: all characters.
func TestConversionOfAllCharacters(t *testing.T) {
	for _, syntax := range syntaxes() {
		for c := range 256 {
			for _, d := range []int{0, 97, 128, 255, c, 255 - c} {
				for _, goal := range []api.Term{s("char_conversion", char(c), char(d)), s("current_char_conversion", char(c), char(d)), s("current_char_conversion", char(c), x(0))} {
					checkCall(t, syntax, goal, meaning(syntax, goal))
				}
			}
		}
	}
}

// P8.5: terms that are no goals of the package's predicates.
func TestCallOfOtherPredicates(t *testing.T) {
	var others []api.Term
	for _, name := range []string{"op", "current_op", "char_conversion", "current_char_conversion", "set_prolog_flag", "current_prolog_flag", "foo", "=", ".", "", "Op", "opp", longest()} {
		others = append(others, a(name))
		for arity := 1; arity <= api.MaxArity; arity++ {
			if goal := s(name, slices.Repeat([]api.Term{a("b")}, arity)...); !Has(name, arity) {
				others = append(others, goal)
			}
		}
	}
	others = append(others, x(0), i(0), i(3), a("[]"), s("foo", x(0)), s("op", i(1)), s("call", s("op", x(0), x(1), x(2))), chain(api.MaxSize, a("op")))
	for _, syntax := range syntaxes() {
		for _, goal := range others {
			checkCall(t, syntax, goal, outcome{e: api.ErrNone})
		}
	}
}

// P8.5: arguments that are not valid are found before everything else.
func TestCallWithInvalidArguments(t *testing.T) {
	wrong := outcome{e: api.ErrArg}
	var bad []api.Term
	for _, u := range append(invalid(), x(1), x(api.MaxVar), s("f", x(1)), s("f", x(0), x(2)), s("f", x(0), x(2), x(1))) {
		bad = append(bad, u, s("foo", u), s("foo", a("b"), a("b"), u), s("op", i(200), a("xfx"), u), s("op", u, a("xfx"), a("in")), s("op", i(200), u, a("in")), s("op", i(200), a("xfx"), list(a("[]"), a("in"), u)), s("current_op", u, x(0), x(1)), s("char_conversion", a("a"), u), s("current_char_conversion", u, a("a")), s("set_prolog_flag", a("debug"), u), s("current_prolog_flag", a("debug"), u))
	}
	bad = append(bad, s("current_op", x(0), x(2), x(1)), s("current_op", x(1), x(0), x(0)), s("current_prolog_flag", x(1), x(0)), s("current_prolog_flag", a("debug"), x(1)))
	for _, goal := range bad {
		checkCall(t, Start(), goal, wrong)
		checkCall(t, wrongSyntaxes()[0], goal, wrong)
	}
	for _, syntax := range wrongSyntaxes() {
		for _, goal := range append(largeGoals()[:3], a("foo"), x(0), s("op", i(200), a("xfx"), a("in")), s("op", i(0), a("xfx"), a("[]")), s("op", i(0), a("xfx"), x(0)), s("current_op", x(0), x(1), x(2)), s("current_op", a("a"), x(0), x(1)), s("char_conversion", a("a"), a("b")), s("current_char_conversion", x(0), x(1)), s("set_prolog_flag", a("debug"), a("on")), s("current_prolog_flag", x(0), x(1))) {
			checkCall(t, syntax, goal, wrong)
		}
	}
}

// P8.5: names are set one after the other, on the table that results so far.
func TestNamesAreSetInOrder(t *testing.T) {
	set := func(prec int, specifier string, l ...string) api.Term {
		var all []api.Term
		for _, name := range l {
			all = append(all, a(name))
		}
		return s("op", i(int64(prec)), a(specifier), list(a("[]"), all...))
	}
	roomFor := func(n int) api.Syntax {
		return api.Syntax{Ops: crowded(api.MaxOps - n), Flags: Default()}
	}
	create := func(name string) outcome { return raised("permission_error", a("create"), a("operator"), a(name)) }
	for _, c := range []struct {
		syntax api.Syntax
		goal   api.Term
		want   outcome
	}{
		{roomFor(0), set(200, "xfy", "x"), outcome{e: api.ErrFull}},
		{roomFor(1), set(200, "xfy", "x", "y"), outcome{e: api.ErrFull}},
		{roomFor(1), set(200, "xfy", "x", "y", ","), outcome{e: api.ErrFull}},
		{roomFor(1), set(200, "xfy", "x", ",", "y"), raised("permission_error", a("modify"), a("operator"), a(","))},
		{roomFor(1), set(200, "xfy", "x", "{}", "y"), create("{}")},
		{roomFor(1), set(200, "xfy", "x", "[]", "y"), create("[]")},
		{roomFor(1), set(1000, "xfy", "x", "|", "y"), create("|")},
		{roomFor(1), set(1001, "xfy", "|", "x"), outcome{e: api.ErrFull}},
		{roomFor(0), set(0, "xfy", "x", "y"), one(roomFor(0), set(0, "xfy", "x", "y"))},
		{roomFor(0), set(0, "xfy", "x", ","), raised("permission_error", a("modify"), a("operator"), a(","))},
		{roomFor(1), set(0, "xfy", "x", "|"), one(roomFor(1), set(0, "xfy", "x", "|"))},
		{Start(), set(200, "xf", "&", "is"), create("is")},
		{Start(), set(200, "xf", "is", ","), create("is")},
		{Start(), set(1000, "xfy", ","), raised("permission_error", a("modify"), a("operator"), a(","))},
	} {
		checkCall(t, c.syntax, c.goal, c.want)
		if want := meaning(c.syntax, c.goal); want.e != c.want.e || !equal(want.ball, c.want.ball) {
			t.Errorf("the second version of %s differs", text(c.goal))
		}
	}
}

// P8.5: as many names as the table has room for.
func TestManyNames(t *testing.T) {
	start := Start()
	var names []api.Term
	for k := range api.MaxOps {
		names = append(names, a("m"+strconv.Itoa(k)))
	}
	room := api.MaxOps - len(start.Ops)
	for n := range names {
		goal := s("op", i(333), a("yf"), list(a("[]"), names[:n]...))
		want := meaning(start, goal)
		checkCall(t, start, goal, want)
		if (want.e == api.OK) != (n <= room) || want.e == api.OK && len(want.syntax.Ops) != len(start.Ops)+n {
			t.Errorf("%d names: error %d", n, want.e)
		}
	}
}

// P8.5
func TestCallExamples(t *testing.T) {
	start := Start()
	for _, c := range []struct {
		goal api.Term
		want outcome
	}{
		{s("op", x(0), a("xfx"), a("in")), raised("instantiation_error")},
		{s("op", i(1201), a("xfx"), a("in")), raised("domain_error", a("operator_priority"), i(1201))},
		{s("op", i(700), a("abc"), a("in")), raised("domain_error", a("operator_specifier"), a("abc"))},
		{s("op", i(700), a("xfx"), a(",")), raised("permission_error", a("modify"), a("operator"), a(","))},
		{s("op", i(200), a("xfy"), list(a("[]"), a("a"), i(1))), raised("type_error", a("atom"), i(1))},
		{s("op", i(200), a("xfy"), list(a("[]"), a("a"), x(0))), raised("instantiation_error")},
		{s("op", i(200), a("xfy"), a("[]")), one(start, s("op", i(200), a("xfy"), a("[]")))},
		{s("set_prolog_flag", a("max_arity"), i(9)), raised("permission_error", a("modify"), a("flag"), a("max_arity"))},
		{s("set_prolog_flag", a("unknown"), a("maybe")), raised("domain_error", a("flag_value"), s("+", a("unknown"), a("maybe")))},
		{s("foo", x(0)), outcome{e: api.ErrNone}},
		{s("op", i(1)), outcome{e: api.ErrNone}},
	} {
		checkCall(t, start, c.goal, c.want)
	}
	in := s("op", i(700), a("xfx"), a("in"))
	got := called(start, in)
	if o, ok := ops.Infix(got.syntax.Ops, "in"); got.e != api.OK || len(got.answers) != 1 || !equal(got.answers[0], in) || !ok || o != op(700, api.XFX, "in") {
		t.Errorf("op(700, xfx, in): %v", got)
	}
	fail := start
	fail.Flags.Unknown = 2
	checkCall(t, start, s("set_prolog_flag", a("unknown"), a("fail")), one(fail, s("set_prolog_flag", a("unknown"), a("fail"))))
	got = called(start, s("current_prolog_flag", x(0), x(1)))
	if len(got.answers) != 9 || !equal(got.answers[0], s("current_prolog_flag", a("bounded"), a("true"))) || !equal(got.answers[8], s("current_prolog_flag", a("unknown"), a("error"))) {
		t.Errorf("current_prolog_flag(X, Y): %v", got)
	}
}

// P8.5: the worked example, and the conversion of the examples.
func TestCallExamplesInOrder(t *testing.T) {
	got := called(Start(), s("op", i(200), a("xfy"), list(a("[]"), a("&"), a("is"))))
	for _, name := range []string{"&", "is"} {
		if o, ok := ops.Infix(got.syntax.Ops, name); !ok || o != op(200, api.XFY, name) {
			t.Errorf("%s: %v, %v", name, o, ok)
		}
	}
	got = called(Start(), s("char_conversion", a("a"), a("b")))
	if got.e != api.OK || len(got.answers) != 1 || !equal(got.answers[0], s("char_conversion", a("a"), a("b"))) {
		t.Errorf("char_conversion(a, b): %v", got)
	}
	checkCall(t, got.syntax, s("current_char_conversion", a("a"), x(0)), one(got.syntax, s("current_char_conversion", a("a"), a("b"))))
	checkCall(t, got.syntax, s("current_char_conversion", a("b"), x(0)), one(got.syntax, s("current_char_conversion", a("b"), a("b"))))
}
