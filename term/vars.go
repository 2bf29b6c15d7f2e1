package term

import "hornbeam/api"

// Vars returns the variables of a term in order of first occurrence.
func Vars(t api.Term) (l []int64) {
	if !Valid(t) {
		return nil
	}
	position := positions()
	eachVar(t, func(v int64) {
		if position(v) == int64(len(l)) {
			l = append(l, v)
		}
	})
	return l
}

// Canon returns the term with its variables numbered from 0 in order of first occurrence.
func Canon(t api.Term) (c api.Term) {
	if !Valid(t) {
		return api.Term{}
	}
	return canonical(t)
}

// Rename returns the term with from added to each variable number.
func Rename(t api.Term, from int64) (r api.Term, e api.Errno) {
	if !Valid(t) || !isVar(from) {
		return api.Term{}, api.ErrArg
	}
	r = rebuilt(t, func(v int64) api.Term {
		if !isVar(v + from) {
			e = api.ErrLong
		}
		return api.Term{Kind: api.KindVar, N: v + from}
	})
	if e != api.OK {
		return api.Term{}, e
	}
	return r, api.OK
}

// Variant reports whether two terms are equal up to the numbers of variables.
func Variant(a, b api.Term) (ok bool) {
	return Valid(a) && Valid(b) && identical(canonical(a), canonical(b))
}

// Replace returns the term with each occurrence of a variable replaced by a term.
func Replace(t api.Term, v int64, by api.Term) (r api.Term, e api.Errno) {
	if !Valid(t) || !isVar(v) || !Valid(by) {
		return api.Term{}, api.ErrArg
	}
	// The occurrences share one term until the size is known: copies of it could be too many.
	shared := rebuilt(t, func(n int64) api.Term {
		if n == v {
			return by
		}
		return api.Term{Kind: api.KindVar, N: n}
	})
	if Size(shared) > api.MaxSize {
		return api.Term{}, api.ErrLong
	}
	return copied(shared), api.OK
}

// canonical returns the canonical form of a valid term.
func canonical(t api.Term) api.Term {
	position := positions()
	return rebuilt(t, func(v int64) api.Term {
		return api.Term{Kind: api.KindVar, N: position(v)}
	})
}

// positions returns a function that numbers variables from 0, in the order of the first calls with them.
func positions() func(v int64) int64 {
	known := map[int64]int64{}
	return func(v int64) int64 {
		position, ok := known[v]
		if !ok {
			position = int64(len(known))
			known[v] = position
		}
		return position
	}
}

// eachVar calls visit for the occurrences of variables in a valid term, from left to right.
func eachVar(t api.Term, visit func(v int64)) {
	if t.Kind == api.KindVar {
		visit(t.N)
	}
	for _, arg := range t.Args {
		eachVar(arg, visit)
	}
}
