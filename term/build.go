package term

import (
	"slices"

	"hornbeam/api"
)

// The name and the number of arguments of the structures of which lists consist.
const (
	consName  = "."
	consArity = 2
)

// Var, Int, Atom and Struct return terms.
func Var(n int64) (t api.Term) {
	return Clone(api.Term{Kind: api.KindVar, N: n})
}

func Int(n int64) (t api.Term) {
	return Clone(api.Term{Kind: api.KindInt, N: n})
}

func Atom(name string) (t api.Term) {
	return Clone(api.Term{Kind: api.KindAtom, Name: name})
}

func Struct(name string, args ...api.Term) (t api.Term) {
	if len(args) == 0 {
		return Atom(name)
	}
	return Clone(api.Term{Kind: api.KindStruct, Name: name, Args: args})
}

// List returns a list with a tail; Elems takes one apart.
func List(l []api.Term, tail api.Term) (t api.Term) {
	// A list that is certainly too large is not built: it could be arbitrarily long.
	if len(l) > api.MaxSize {
		return api.Term{}
	}
	t = tail
	for _, element := range slices.Backward(l) {
		t = api.Term{Kind: api.KindStruct, Name: consName, Args: []api.Term{element, t}}
	}
	return Clone(t)
}

func Elems(t api.Term) (l []api.Term, tail api.Term) {
	if !Valid(t) {
		return nil, api.Term{}
	}
	for t.Kind == api.KindStruct && t.Name == consName && len(t.Args) == consArity {
		l = append(l, copied(t.Args[0]))
		t = t.Args[1]
	}
	return l, copied(t)
}

// Indicator returns Name/Arity.
func Indicator(name string, arity int) (t api.Term) {
	if arity < 0 || arity > api.MaxArity {
		return api.Term{}
	}
	// Atom would return the zero Term for a name that is too long, and that is a valid argument.
	atom := api.Term{Kind: api.KindAtom, Name: name}
	return Struct("/", atom, api.Term{Kind: api.KindInt, N: int64(arity)})
}
