package flags

import (
	"fmt"
	"math"
	"slices"
	"testing"

	"hornbeam/api"
	"hornbeam/ops"
)

// chapter returns the names and the values of flags, in the order of the chapter's table.
func chapter(f api.Flags) (names []string, values []api.Term) {
	onOff := map[bool]string{true: "on", false: "off"}
	quotes := map[int]string{1: "codes", 2: "chars", 3: "atom"}
	unknown := map[int]string{1: "error", 2: "fail"}
	names = []string{"bounded", "char_conversion", "debug", "double_quotes", "integer_rounding_function", "max_arity", "max_integer", "min_integer", "unknown"}
	values = []api.Term{a("true"), a(onOff[f.Conversion]), a(onOff[f.Debug]), a(quotes[f.Quotes]), a("toward_zero"), i(8), i(9223372036854775807), i(-9223372036854775808), a(unknown[f.Unknown])}
	return names, values
}

// mayChange are the flags that are not read-only.
func mayChange() []string { return []string{"char_conversion", "debug", "double_quotes", "unknown"} }

// noFlags are strings that are not names of flags.
func noFlags() []string {
	return []string{"", "foo", "Debug", "debug ", "debu", "debugg", "max_arity\x00", "occurs_check", "[]", longest(), tooLong()}
}

// someValues are valid terms: values of flags, and others.
func someValues() []api.Term {
	return []api.Term{
		a("on"), a("off"), a("true"), a("false"), a("codes"), a("chars"), a("atom"), a("error"), a("fail"), a("toward_zero"), i(8), i(math.MaxInt64), i(math.MinInt64),
		i(0), i(1), i(2), i(3), x(0), x(5), a(""), a("On"), a("ON"), a("on "), a("o"), a("warning"), a("down"), a("8"), a("[]"), s("on", a("on")), s("on", x(0)), list(a("[]"), a("on")), s("+", a("debug"), a("on")), chain(api.MaxSize, a("on")),
	}
}

// P8.1
func TestDefault(t *testing.T) {
	if got, want := Default(), (api.Flags{Quotes: 1, Unknown: 1}); got != want {
		t.Errorf("Default() = %v", got)
	}
}

// P8.1
func TestValid(t *testing.T) {
	for _, f := range append(allFlags(), Default()) {
		if !Valid(f) {
			t.Errorf("Valid(%v) = false", f)
		}
	}
	for _, f := range wrongFlags() {
		if Valid(f) {
			t.Errorf("Valid(%v) = true", f)
		}
	}
}

// P8.1
func TestValidSyntax(t *testing.T) {
	for _, l := range syntaxes() {
		if !ValidSyntax(l) {
			t.Errorf("ValidSyntax(%v) = false", l)
		}
	}
	for _, l := range wrongSyntaxes() {
		if ValidSyntax(l) {
			t.Errorf("ValidSyntax(%.200s) = true", fmt.Sprint(l))
		}
	}
}

// P8.1
func TestStart(t *testing.T) {
	for range 2 {
		got := Start()
		if !equalSyntax(got, api.Syntax{Ops: ops.Default(), Flags: api.Flags{Quotes: 1, Unknown: 1}}) {
			t.Errorf("Start() = %v", got)
		}
		clear(got.Ops)
	}
}

// P8.1
func TestNames(t *testing.T) {
	for range 2 {
		got := Names()
		if want, _ := chapter(Default()); !slices.Equal(got, want) {
			t.Errorf("Names() = %v", got)
		}
		clear(got)
	}
}

// P8.2
func TestGet(t *testing.T) {
	for _, f := range allFlags() {
		names, values := chapter(f)
		for k, name := range names {
			if got, e := Get(f, name); e != api.OK || !equal(got, values[k]) {
				t.Errorf("Get(%v, %s) = %v, %d", f, name, got, e)
			}
		}
		for _, name := range noFlags() {
			if got, e := Get(f, name); e != api.ErrNone || !equal(got, api.Term{}) {
				t.Errorf("Get(%v, %.200q) = %v, %d", f, name, got, e)
			}
		}
	}
}

// P8.2: flags that are not valid are found first.
func TestGetFromInvalidFlags(t *testing.T) {
	for _, f := range wrongFlags() {
		for _, name := range append(Names(), noFlags()...) {
			if got, e := Get(f, name); e != api.ErrArg || !equal(got, api.Term{}) {
				t.Errorf("Get(%v, %.200q) = %v, %d", f, name, got, e)
			}
		}
	}
}

// changed is a second way to set a flag, in the words of the chapter.
func changed(f api.Flags, name string, value api.Term) (api.Flags, api.Errno) {
	all, _ := chapter(f)
	switch {
	case !slices.Contains(all, name):
		return api.Flags{}, api.ErrNone
	case !slices.Contains(mayChange(), name):
		return api.Flags{}, api.ErrState
	case value.Kind != api.KindAtom:
		return api.Flags{}, api.ErrForm
	}
	switch name + " " + value.Name {
	case "char_conversion on", "char_conversion off":
		f.Conversion = value.Name == "on"
	case "debug on", "debug off":
		f.Debug = value.Name == "on"
	case "double_quotes codes":
		f.Quotes = 1
	case "double_quotes chars":
		f.Quotes = 2
	case "double_quotes atom":
		f.Quotes = 3
	case "unknown error":
		f.Unknown = 1
	case "unknown fail":
		f.Unknown = 2
	default:
		return api.Flags{}, api.ErrForm
	}
	return f, api.OK
}

// P8.3
func TestSet(t *testing.T) {
	results := map[api.Errno]int{}
	for _, f := range allFlags() {
		for _, name := range append(Names(), noFlags()...) {
			for _, value := range someValues() {
				want, why := changed(f, name, value)
				if got, e := Set(f, name, value); got != want || e != why {
					t.Errorf("Set(%v, %.200q, %s) = %v, %d, not %v, %d", f, name, text(value), got, e, want, why)
				}
				results[why]++
			}
		}
	}
	// Each flag has as many successes as it has values.
	if results[api.OK] != 24*(2+2+3+2) || results[api.ErrNone] == 0 || results[api.ErrState] == 0 || results[api.ErrForm] == 0 {
		t.Errorf("the results are %v", results)
	}
}

// P8.3: an argument that is not valid is found first.
func TestSetWithInvalidArguments(t *testing.T) {
	names := append(Names(), noFlags()...)
	for _, name := range names {
		for _, f := range wrongFlags() {
			for _, value := range append(someValues(), invalid()...) {
				if got, e := Set(f, name, value); got != (api.Flags{}) || e != api.ErrArg {
					t.Errorf("Set(%v, %.200q, ..) = %v, %d", f, name, got, e)
				}
			}
		}
		for k, value := range invalid() {
			if got, e := Set(Default(), name, value); got != (api.Flags{}) || e != api.ErrArg {
				t.Errorf("Set(.., %.200q, invalid term %d) = %v, %d", name, k, got, e)
			}
		}
	}
}

// P8.2, P8.3
func TestFlagExamples(t *testing.T) {
	for name, want := range map[string]api.Term{"double_quotes": a("codes"), "max_arity": i(8)} {
		if got, e := Get(Default(), name); e != api.OK || !equal(got, want) {
			t.Errorf("Get(.., %s) = %v, %d", name, got, e)
		}
	}
	if got, e := Get(Default(), "foo"); e != api.ErrNone || !equal(got, api.Term{}) {
		t.Errorf("Get(.., foo) = %v, %d", got, e)
	}
	for _, c := range []struct {
		name  string
		value api.Term
		want  api.Flags
		e     api.Errno
	}{
		{"debug", a("on"), api.Flags{Quotes: 1, Unknown: 1, Debug: true}, api.OK},
		{"debug", i(1), api.Flags{}, api.ErrForm},
		{"bounded", a("false"), api.Flags{}, api.ErrState},
		{"foo", a("on"), api.Flags{}, api.ErrNone},
	} {
		if got, e := Set(Default(), c.name, c.value); got != c.want || e != c.e {
			t.Errorf("Set(.., %s, %v) = %v, %d", c.name, c.value, got, e)
		}
	}
}

// P8.4
func TestHas(t *testing.T) {
	arities := map[string]int{"op": 3, "current_op": 3, "char_conversion": 2, "current_char_conversion": 2, "set_prolog_flag": 2, "current_prolog_flag": 2}
	for name, want := range arities {
		for _, arity := range []int{want, 0, 1, 2, 3, 4, 8, 9, -1, -want, want + 256, want + 1<<32, math.MinInt, math.MinInt + want, math.MaxInt} {
			if got := Has(name, arity); got != (arity == want) {
				t.Errorf("Has(%s, %d) = %v", name, arity, got)
			}
		}
	}
	for _, name := range append(noFlags(), "o", "op ", "opp", "OP", "current_flag", "prolog_flag", "=", "op/3") {
		for arity := -1; arity < 10; arity++ {
			if Has(name, arity) {
				t.Errorf("Has(%.200q, %d) = true", name, arity)
			}
		}
	}
}
