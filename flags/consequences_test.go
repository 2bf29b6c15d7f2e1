package flags

import (
	"slices"
	"strings"
	"testing"

	"hornbeam/api"
)

// P8.6
func TestSyntaxAfterCall(t *testing.T) {
	for _, syntax := range syntaxes() {
		for _, goal := range goals() {
			got := called(syntax, goal)
			if got.e != api.OK {
				continue
			}
			if !ValidSyntax(got.syntax) {
				t.Errorf("%s leaves the syntax %v", text(goal), got.syntax)
			}
			if strings.HasPrefix(goal.Name, "current_") && !equalSyntax(got.syntax, syntax) {
				t.Errorf("%s changes %v to %v", text(goal), syntax, got.syntax)
			}
		}
	}
}

// P8.7
func TestGetAfterSet(t *testing.T) {
	for _, f := range allFlags() {
		for _, name := range mayChange() {
			for _, value := range someValues() {
				g, e := Set(f, name, value)
				if e != api.OK {
					continue
				}
				for _, other := range Names() {
					want, _ := Get(f, other)
					if other == name {
						want = value
					}
					if got, e := Get(g, other); e != api.OK || !equal(got, want) {
						t.Errorf("%s is %v, %d after Set(%v, %s, %v)", other, got, e, f, name, value)
					}
				}
			}
		}
	}
}

// P8.7
func TestSettingTheSameValue(t *testing.T) {
	for _, f := range allFlags() {
		for _, name := range mayChange() {
			value, _ := Get(f, name)
			if g, e := Set(f, name, value); e != api.OK || g != f {
				t.Errorf("Set(%v, %s, %v) = %v, %d", f, name, value, g, e)
			}
		}
	}
}

// operators returns what current_op lists: of the class of a type and with a name, and otherwise.
func operators(t *testing.T, syntax api.Syntax, typ, name string) (of, others []api.Term) {
	t.Helper()
	classes := map[string]string{"fy": "prefix", "fx": "prefix", "xfx": "infix", "xfy": "infix", "yfx": "infix", "xf": "postfix", "yf": "postfix"}
	got := called(syntax, s("current_op", x(0), x(1), x(2)))
	if got.e != api.OK {
		t.Fatalf("current_op: %d", got.e)
	}
	for _, answer := range got.answers {
		if answer.Args[2].Name == name && classes[answer.Args[1].Name] == classes[typ] {
			of = append(of, answer)
		} else {
			others = append(others, answer)
		}
	}
	return of, others
}

// P8.8
func TestOperatorsAfterOp(t *testing.T) {
	succeeded := map[bool]int{}
	for _, syntax := range syntaxes() {
		for _, name := range []string{"in", "is", "a", "b", "n103", "n104", "-", "|", "", "\xff", longest()} {
			for _, typ := range specifiers()[1:] {
				_, before := operators(t, syntax, typ, name)
				for _, prec := range []int64{0, 1, 700, 1001, 1200} {
					got := called(syntax, s("op", i(prec), a(typ), a(name)))
					if got.e != api.OK {
						continue
					}
					succeeded[prec > 0]++
					var want []api.Term
					if prec > 0 {
						want = []api.Term{s("current_op", i(prec), a(typ), a(name))}
					}
					of, others := operators(t, got.syntax, typ, name)
					if !slices.EqualFunc(of, want, equal) || !slices.EqualFunc(others, before, equal) {
						t.Errorf("op(%d, %s, %q): %v, %v", prec, typ, name, of, others)
					}
				}
			}
		}
	}
	if succeeded[true] == 0 || succeeded[false] == 0 {
		t.Errorf("op has succeeded: %v", succeeded)
	}
}

// P8.9
func TestConversionAfterCharConversion(t *testing.T) {
	for _, syntax := range syntaxes() {
		for from := range 256 {
			for _, to := range []int{0, 97, 98, 200, 255, from, 255 - from, image(syntax.Conv, from)} {
				got := called(syntax, s("char_conversion", char(from), char(to)))
				if got.e != api.OK {
					t.Fatalf("char_conversion of %d to %d: %d", from, to, got.e)
				}
				checkCall(t, got.syntax, s("current_char_conversion", char(from), x(0)), one(got.syntax, s("current_char_conversion", char(from), char(to))))
			}
		}
	}
}
