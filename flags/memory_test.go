package flags

import (
	"slices"
	"testing"

	"hornbeam/api"
)

// roomy returns copies of terms in which the list and each slice of arguments, also an empty one, has spare capacity.
func roomy(l []api.Term) []api.Term {
	const spare = 3
	c := make([]api.Term, len(l)+spare)
	for k, t := range l {
		t.Args = roomy(t.Args)
		c[k] = t
	}
	for k := range spare {
		c[len(l)+k] = a("spare")
	}
	return c[:len(l)]
}

// roomySyntax returns a copy of a syntax whose tables have spare capacity.
func roomySyntax(syntax api.Syntax) api.Syntax {
	syntax.Ops = append(slices.Clone(syntax.Ops), op(1, api.FX, "spare"), op(1, api.FX, "spare"))[:len(syntax.Ops)]
	syntax.Conv = append(slices.Clone(syntax.Conv), api.Pair{From: 7, To: 7}, api.Pair{From: 7, To: 7})[:len(syntax.Conv)]
	return syntax
}

// memory is the memory of terms and syntaxes: all elements of their slices, with the spare capacity.
type memory struct {
	terms []*api.Term
	ops   []*api.Op
	pairs []*api.Pair
}

func (m *memory) addTerms(l []api.Term) {
	whole := l[:cap(l)]
	for k := range whole {
		m.terms = append(m.terms, &whole[k])
		m.addTerms(whole[k].Args)
	}
}

func (m *memory) addSyntax(syntax api.Syntax) {
	table, pairs := syntax.Ops[:cap(syntax.Ops)], syntax.Conv[:cap(syntax.Conv)]
	for k := range table {
		m.ops = append(m.ops, &table[k])
	}
	for k := range pairs {
		m.pairs = append(m.pairs, &pairs[k])
	}
}

func (m *memory) addOutcome(got outcome) {
	m.addTerms(got.answers)
	m.addTerms([]api.Term{got.ball})
	m.addSyntax(got.syntax)
}

// places returns all addresses.
func (m *memory) places() []any {
	var l []any
	for _, p := range m.terms {
		l = append(l, p)
	}
	for _, p := range m.ops {
		l = append(l, p)
	}
	for _, p := range m.pairs {
		l = append(l, p)
	}
	return l
}

// content is what the memory holds; arguments of terms have places of their own.
func (m *memory) content() []any {
	var l []any
	for _, p := range m.terms {
		l = append(l, [...]any{p.Kind, p.N, p.Name, len(p.Args)})
	}
	for _, p := range m.ops {
		l = append(l, *p)
	}
	for _, p := range m.pairs {
		l = append(l, *p)
	}
	return l
}

// overwrite changes all of the memory.
func (m *memory) overwrite() {
	for _, p := range m.terms {
		*p = a("overwritten")
	}
	for _, p := range m.ops {
		*p = op(1, api.FX, "overwritten")
	}
	for _, p := range m.pairs {
		*p = api.Pair{From: 3, To: 4}
	}
}

// someGoals are goals with outcomes of all kinds.
func someGoals() []api.Term {
	shared := s("g", x(0), a("b"))
	return []api.Term{
		s("op", i(200), a("xfy"), a("in")), s("op", i(200), a("fy"), list(a("[]"), a("+"), a("zz"), a(""))), s("op", i(0), a("xfy"), a("is")), s("op", i(200), a("xfy"), a("[]")), s("op", i(1), a("fy"), list(a("[]"), a("in"), a(","))), s("op", i(1), a("fy"), list(a("[]"), shared, shared)), s("op", shared, a("xfy"), a("in")),
		s("current_op", x(0), x(1), x(2)), s("current_op", x(0), x(1), a("in")), s("current_op", shared, x(1), x(2)),
		s("char_conversion", a("a"), a("c")), s("char_conversion", a("a"), a("a")), s("char_conversion", a("b"), shared), s("current_char_conversion", a("a"), x(0)), s("current_char_conversion", x(0), x(1)),
		s("set_prolog_flag", a("debug"), a("on")), s("set_prolog_flag", a("debug"), shared), s("set_prolog_flag", shared, shared), s("current_prolog_flag", x(0), x(1)), s("current_prolog_flag", a("debug"), shared), s("current_prolog_flag", shared, a("on")),
		s("foo", shared), s("op", x(1), a("xfy"), shared), a("op"), x(0),
	}
}

// P8.5, R4: arguments, their spare capacity included, remain as they are.
func TestArgumentsAreNotModified(t *testing.T) {
	for _, l := range append(syntaxes(), wrongSyntaxes()...) {
		syntax := roomySyntax(l)
		for _, goal := range roomy(someGoals()) {
			var m memory
			m.addTerms([]api.Term{goal})
			m.addSyntax(syntax)
			before := m.content()
			called(syntax, goal)
			ValidSyntax(syntax)
			Set(syntax.Flags, "debug", goal)
			if !slices.Equal(m.content(), before) {
				t.Errorf("%s has changed its arguments", text(goal))
			}
		}
	}
}

// P8.5, R4: no two slices of the arguments and of the results overlap, even if parts of the goal share memory.
func TestResultsShareNoMemory(t *testing.T) {
	for _, l := range syntaxes() {
		for _, syntax := range []api.Syntax{l, roomySyntax(l)} {
			for _, goals := range [][]api.Term{someGoals(), roomy(someGoals())} {
				for _, goal := range goals {
					var given, results memory
					given.addTerms([]api.Term{goal})
					given.addSyntax(syntax)
					results.addOutcome(called(syntax, goal))
					taken := map[any]bool{}
					for _, p := range given.places() {
						taken[p] = true
					}
					for _, p := range results.places() {
						if taken[p] {
							t.Errorf("the results of %s share memory", text(goal))
						}
						taken[p] = true
					}
				}
			}
		}
	}
}

// P8.5, R4: results are not kept: a result that is overwritten changes no later one.
func TestResultsAreNotKept(t *testing.T) {
	for k := range syntaxes() {
		for _, goal := range someGoals() {
			want := called(syntaxes()[k], goal)
			var results memory
			results.addOutcome(called(syntaxes()[k], goal))
			results.overwrite()
			checkCall(t, syntaxes()[k], goal, want)
		}
	}
}

// P8.2, R4: the same for the values of flags, which have no arguments.
func TestValuesShareNoMemory(t *testing.T) {
	for _, f := range allFlags() {
		for _, name := range Names() {
			if got, _ := Get(f, name); cap(got.Args) > 0 {
				t.Errorf("the value of %s has room for arguments", name)
			}
		}
	}
}
