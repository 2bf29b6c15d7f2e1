package flags

import (
	"math"
	"slices"

	"hornbeam/api"
	"hornbeam/term"
)

// flag is a Prolog flag. place returns the place among its values of the one that it has in valid flags, and put sets that; put is nil for a flag that is read-only.
type flag struct {
	name   string
	values []api.Term
	place  func(f api.Flags) int
	put    func(f *api.Flags, place int)
}

// table returns all flags in their order.
func table() []flag {
	return []flag{
		constant("bounded", term.Atom("true")),
		toggle("char_conversion", func(f *api.Flags) *bool { return &f.Conversion }),
		toggle("debug", func(f *api.Flags) *bool { return &f.Debug }),
		choice("double_quotes", func(f *api.Flags) *int { return &f.Quotes }, "codes", "chars", "atom"),
		constant("integer_rounding_function", term.Atom("toward_zero")),
		constant("max_arity", term.Int(api.MaxArity)),
		constant("max_integer", term.Int(math.MaxInt64)),
		constant("min_integer", term.Int(math.MinInt64)),
		choice("unknown", func(f *api.Flags) *int { return &f.Unknown }, "error", "fail"),
	}
}

func find(name string) (x flag, ok bool) {
	all := table()
	at := slices.IndexFunc(all, func(x flag) bool { return x.name == name })
	if at < 0 {
		return flag{}, false
	}
	return all[at], true
}

// value returns the value that a flag has in valid flags.
func (x flag) value(f api.Flags) api.Term {
	return x.values[x.place(f)]
}

// constant returns a read-only flag.
func constant(name string, value api.Term) flag {
	return flag{
		name:   name,
		values: []api.Term{value},
		place:  func(f api.Flags) int { return 0 },
	}
}

// toggle returns a flag that is off or on.
func toggle(name string, field func(f *api.Flags) *bool) flag {
	return flag{
		name:   name,
		values: []api.Term{term.Atom("off"), term.Atom("on")},
		place: func(f api.Flags) int {
			if *field(&f) {
				return 1
			}
			return 0
		},
		put: func(f *api.Flags, place int) { *field(f) = place == 1 },
	}
}

// choice returns a flag whose field has the number of one of its values; they are numbered from 1.
func choice(name string, field func(f *api.Flags) *int, values ...string) flag {
	x := flag{
		name:  name,
		place: func(f api.Flags) int { return *field(&f) - 1 },
		put:   func(f *api.Flags, place int) { *field(f) = place + 1 },
	}
	for _, v := range values {
		x.values = append(x.values, term.Atom(v))
	}
	return x
}
