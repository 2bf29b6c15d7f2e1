package order

import (
	"slices"

	"hornbeam/api"
	"hornbeam/term"
)

// The name and the number of arguments of pairs Key-Value.
const (
	pairName  = "-"
	pairArity = 2
)

// Sort returns the terms in increasing order, without duplicates.
func Sort(l []api.Term) (s []api.Term, e api.Errno) {
	if !areValid(l) {
		return nil, api.ErrArg
	}
	different := slices.CompactFunc(sorted(l, whole), func(a, b api.Term) bool { return compare(a, b) == 0 })
	return copied(different), api.OK
}

// Stable returns the terms in nondecreasing order.
func Stable(l []api.Term) (s []api.Term, e api.Errno) {
	if !areValid(l) {
		return nil, api.ErrArg
	}
	return copied(sorted(l, whole)), api.OK
}

// Keys returns pairs Key-Value in nondecreasing order of their keys; equal keys keep their order.
func Keys(l []api.Term) (s []api.Term, e api.Errno) {
	switch {
	case !areValid(l):
		return nil, api.ErrArg
	case !arePairs(l):
		return nil, api.ErrForm
	}
	return copied(sorted(l, key)), api.OK
}

// sorted returns valid terms in nondecreasing order of a part of each; those with identical parts keep their order.
func sorted(l []api.Term, part func(t api.Term) api.Term) []api.Term {
	s := slices.Clone(l)
	slices.SortStableFunc(s, func(a, b api.Term) int { return compare(part(a), part(b)) })
	return s
}

// whole is the part by which terms are sorted; key is that by which pairs are.
func whole(t api.Term) api.Term { return t }

func key(pair api.Term) api.Term { return pair.Args[0] }

// arePairs reports whether all terms of a list are pairs.
func arePairs(l []api.Term) bool {
	for _, t := range l {
		if t.Kind != api.KindStruct || t.Name != pairName || len(t.Args) != pairArity {
			return false
		}
	}
	return true
}

// copied returns deep copies of valid terms.
func copied(l []api.Term) []api.Term {
	s := make([]api.Term, len(l))
	for i, t := range l {
		s[i] = term.Clone(t)
	}
	return s
}
