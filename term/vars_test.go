package term

import (
	"math"
	"slices"
	"testing"

	"hornbeam/api"
)

// variables returns the numbers of the variables of a valid term, each once, in order of first occurrence.
func variables(t api.Term) (l []int64) {
	for _, node := range nodes(t) {
		if node.Kind == api.KindVar && !slices.Contains(l, node.N) {
			l = append(l, node.N)
		}
	}
	return l
}

// mapped returns a valid term in which f has been applied to each variable.
func mapped(t api.Term, f func(n int64) api.Term) api.Term {
	if t.Kind == api.KindVar {
		return f(t.N)
	}
	u := t
	u.Args = nil
	for _, arg := range t.Args {
		u.Args = append(u.Args, mapped(arg, f))
	}
	return u
}

// P3.3
func TestVars(t *testing.T) {
	for _, u := range samples() {
		if l := Vars(u); !slices.Equal(l, variables(u)) {
			t.Errorf("Vars(%s) is %v", text(u), l)
		}
	}
	if l := Vars(s("f", x(5), s("g", x(2), x(5)), i(7), s("g", s("h", x(api.MaxVar)), x(0)), x(2))); !slices.Equal(l, []int64{5, 2, api.MaxVar, 0}) {
		t.Errorf("%v", l)
	}
	for k, u := range invalid() {
		if l := Vars(u); len(l) != 0 {
			t.Errorf("term %d has %v", k, l)
		}
	}
}

// P3.3
func TestCanon(t *testing.T) {
	for _, u := range samples() {
		l := variables(u)
		check(t, "Canon", Canon(u), mapped(u, func(n int64) api.Term { return x(int64(slices.Index(l, n))) }))
	}
	check(t, "Canon", Canon(s("f", x(5), s("g", x(2), x(5)))), s("f", x(0), s("g", x(1), x(0))))
	check(t, "Canon", Canon(s("f", s("g", x(0), x(api.MaxVar)), x(1), i(5), x(0))), s("f", s("g", x(0), x(1)), x(2), i(5), x(0)))
	check(t, "Canon", Canon(x(api.MaxVar)), x(0))
	for k, u := range invalid() {
		if c := Canon(u); !isZero(c) {
			t.Errorf("Canon of term %d has the kind %d", k, c.Kind)
		}
	}
}

// P3.3
func TestClone(t *testing.T) {
	for _, u := range samples() {
		check(t, "Clone", Clone(u), u)
	}
	for k, u := range invalid() {
		if c := Clone(u); !isZero(c) {
			t.Errorf("Clone of term %d has the kind %d", k, c.Kind)
		}
	}
}

// P3.4
func TestRename(t *testing.T) {
	for _, u := range samples() {
		for _, from := range []int64{0, 1, 10, 1 << 32, api.MaxVar - 8, api.MaxVar - 5, api.MaxVar - 1, api.MaxVar} {
			want, e := mapped(u, func(n int64) api.Term { return x(n + from) }), api.OK
			if l := variables(u); len(l) > 0 && slices.Max(l) > api.MaxVar-from {
				want, e = api.Term{}, api.ErrLong
			}
			r, got := Rename(u, from)
			if check(t, "Rename", r, want); got != e {
				t.Errorf("Rename(%s, %d): error %d, not %d", text(u), from, got, e)
			}
		}
	}
}

// P3.4
func TestRenameExamples(t *testing.T) {
	for _, c := range []struct {
		t    api.Term
		from int64
		r    api.Term
		e    api.Errno
	}{
		{s("f", x(0), x(1)), 10, s("f", x(10), x(11)), api.OK}, {x(0), -1, api.Term{}, api.ErrArg}, {x(1), api.MaxVar, api.Term{}, api.ErrLong},
		{x(0), api.MaxVar, x(api.MaxVar), api.OK}, {x(0), api.MaxVar + 1, api.Term{}, api.ErrArg}, {x(3), 0, x(3), api.OK},
		{x(5), api.MaxVar - 5, x(api.MaxVar), api.OK}, {x(6), api.MaxVar - 5, api.Term{}, api.ErrLong},
		{a("a"), api.MaxVar, a("a"), api.OK}, {i(api.MaxVar), 1, i(api.MaxVar), api.OK}, {a("a"), -1, api.Term{}, api.ErrArg}, {a("a"), math.MaxInt64, api.Term{}, api.ErrArg}, {x(1), math.MinInt64, api.Term{}, api.ErrArg}, {x(api.MaxVar), math.MaxInt64, api.Term{}, api.ErrArg},
		{s("f", x(2), x(0)), api.MaxVar - 1, api.Term{}, api.ErrLong}, {s("f", x(0), s("g", x(2))), api.MaxVar - 1, api.Term{}, api.ErrLong}, {s("f", x(0), s("g", x(2), x(1))), api.MaxVar - 2, s("f", x(api.MaxVar-2), s("g", x(api.MaxVar), x(api.MaxVar-1))), api.OK},
	} {
		r, e := Rename(c.t, c.from)
		if check(t, "Rename", r, c.r); e != c.e {
			t.Errorf("Rename(%s, %d): error %d, not %d", text(c.t), c.from, e, c.e)
		}
	}
	for k, u := range invalid() {
		for _, from := range []int64{0, 1, -1, api.MaxVar} {
			if r, e := Rename(u, from); e != api.ErrArg || !isZero(r) {
				t.Errorf("Rename of term %d by %d: %d", k, from, e)
			}
		}
	}
}

// P3.5
func TestReplace(t *testing.T) {
	all := samples()
	for _, u := range all {
		for _, by := range append(all[:40:40], all[len(all)-20:]...) {
			for _, v := range []int64{0, 1, 3, api.MaxVar} {
				want, e := mapped(u, func(n int64) api.Term {
					if n == v {
						return by
					}
					return x(n)
				}), api.OK
				if len(nodes(want)) > api.MaxSize {
					want, e = api.Term{}, api.ErrLong
				}
				r, got := Replace(u, v, by)
				if check(t, "Replace", r, want); got != e {
					t.Errorf("Replace(%s, %d, %s): error %d, not %d", text(u), v, text(by), got, e)
				}
			}
		}
	}
}

// P3.5
func TestReplaceExamples(t *testing.T) {
	for k, c := range []struct {
		t  api.Term
		v  int64
		by api.Term
		r  api.Term
		e  api.Errno
	}{
		{s("f", x(0), x(1)), 0, s("g", x(0)), s("f", s("g", x(0)), x(1)), api.OK},
		{s("f", x(0), s("g", x(1), x(0))), 0, s("h", x(1), x(0)), s("f", s("h", x(1), x(0)), s("g", x(1), s("h", x(1), x(0)))), api.OK},
		{s("f", x(0), x(1)), 2, a("a"), s("f", x(0), x(1)), api.OK}, {i(2), 2, a("a"), i(2), api.OK}, {x(2), 2, a("a"), a("a"), api.OK}, {x(api.MaxVar), api.MaxVar, x(0), x(0), api.OK},
		{x(0), 0, chain(2000, a("a")), chain(2000, a("a")), api.OK}, {s("c", x(0)), 0, chain(1999, a("a")), chain(2000, a("a")), api.OK}, {s("c", x(0)), 0, chain(2000, a("a")), api.Term{}, api.ErrLong},
		{s("c", x(1)), 0, chain(2000, a("a")), s("c", x(1)), api.OK}, {chain(2000, x(0)), 0, a("a"), chain(2000, a("a")), api.OK}, {chain(2000, x(0)), 0, s("c", a("a")), api.Term{}, api.ErrLong},
		{s("f", x(0), x(0)), 0, chain(999, a("a")), s("f", chain(999, a("a")), chain(999, a("a"))), api.OK}, {s("f", x(0), x(0), x(1)), 0, chain(999, a("a")), s("f", chain(999, a("a")), chain(999, a("a")), x(1)), api.OK}, {s("f", x(0), x(0)), 0, chain(1000, a("a")), api.Term{}, api.ErrLong},
		{doubled(9, x(0)), 0, flat(999), api.Term{}, api.ErrLong}, {doubled(9, x(0)), 0, s("f", a("a"), a("b")), api.Term{}, api.ErrLong}, {doubled(9, x(0)), 0, s("f", a("a")), mapped(doubled(9, x(0)), func(int64) api.Term { return s("f", a("a")) }), api.OK},
		{x(0), -1, x(0), api.Term{}, api.ErrArg}, {x(0), api.MaxVar + 1, x(0), api.Term{}, api.ErrArg}, {a("a"), math.MinInt64, x(0), api.Term{}, api.ErrArg}, {doubled(9, x(0)), -1, flat(999), api.Term{}, api.ErrArg},
	} {
		r, e := Replace(c.t, c.v, c.by)
		if check(t, "Replace", r, c.r); e != c.e {
			t.Errorf("%d: error %d, not %d", k, e, c.e)
		}
	}
}

// P3.5: terms that are not valid; also where no occurrence is replaced.
func TestReplaceInvalid(t *testing.T) {
	for k, u := range invalid() {
		for _, v := range []int64{0, 5, -1} {
			for _, other := range []api.Term{x(0), a("a"), s("f", x(0)), u} {
				if r, e := Replace(u, v, other); e != api.ErrArg || !isZero(r) {
					t.Errorf("Replace in term %d: %d", k, e)
				}
				if r, e := Replace(other, v, u); e != api.ErrArg || !isZero(r) {
					t.Errorf("Replace by term %d: %d", k, e)
				}
			}
		}
	}
}
