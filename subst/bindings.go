package subst

import (
	"cmp"
	"slices"
	"sort"

	"hornbeam/api"
	"hornbeam/term"
)

// bindings are valid bindings that are given, and further ones that are made by unifying or matching.
type bindings struct {
	given []api.Binding
	made  map[int64]api.Term
}

// of returns the term to which a variable is bound.
func (b bindings) of(v int64) (to api.Term, bound bool) {
	to, bound = b.made[v]
	if bound {
		return to, true
	}
	i, bound := find(b.given, v)
	if !bound {
		return api.Term{}, false
	}
	return b.given[i].To, true
}

// follow follows a term.
func (b bindings) follow(t api.Term) api.Term {
	for t.Kind == api.KindVar {
		to, bound := b.of(t.N)
		if !bound {
			return t
		}
		t = to
	}
	return t
}

// variables returns the variables of a term, of the terms to which they are bound, and so on.
func (b bindings) variables(t api.Term) map[int64]bool {
	visited := map[int64]bool{}
	terms := []api.Term{t}
	for k := 0; k < len(terms); k++ {
		eachVar(terms[k], func(v int64) {
			if visited[v] {
				return
			}
			visited[v] = true
			if to, bound := b.of(v); bound {
				terms = append(terms, to)
			}
		})
	}
	return visited
}

// all returns copies of all bindings, with increasing Vars.
func (b bindings) all() []api.Binding {
	l := make([]api.Binding, 0, len(b.given)+len(b.made))
	for _, old := range b.given {
		l = append(l, api.Binding{Var: old.Var, To: term.Clone(old.To)})
	}
	for v, to := range b.made {
		l = append(l, api.Binding{Var: v, To: term.Clone(to)})
	}
	slices.SortFunc(l, func(p, q api.Binding) int { return cmp.Compare(p.Var, q.Var) })
	return l
}

// find returns the position of the binding of a variable among bindings with increasing Vars.
func find(s []api.Binding, v int64) (i int, ok bool) {
	i = sort.Search(len(s), func(i int) bool { return s[i].Var >= v })
	return i, i < len(s) && s[i].Var == v
}
