package kzg_test

import (
	"slices"
	"testing"

	"causeway/api"
	"causeway/curve"
	"causeway/kzg"
)

// args are all that a call may take; fresh are some that each call takes.
type args struct {
	s      kzg.SRS
	lists  [][]api.Fe
	claims []kzg.Claim
	c      []api.G1
	values []api.Fe
	at, by api.Fe
	w      api.G1
}

func fresh() args {
	l := of(whole(7), 3)
	s := source(101)
	first, second := l.good(&s), l.good(&s)
	many := l.severally(&s, 2, whole(3))
	return args{
		s:      l.srs(),
		lists:  [][]api.Fe{list(1, 2, 3, 4), list(4, 3, 2)},
		claims: claims([]stated{first, second}),
		c:      []api.G1{of1(many.c[0]), of1(many.c[1])},
		values: many.values,
		at:     many.at, by: many.by, w: of1(many.w),
	}
}

// clone shares no memory with a.
func (a args) clone() args {
	a.s.G = slices.Clone(a.s.G)
	a.lists = slices.Clone(a.lists)
	for i := range a.lists {
		a.lists[i] = slices.Clone(a.lists[i])
	}
	a.claims, a.c, a.values = slices.Clone(a.claims), slices.Clone(a.c), slices.Clone(a.values)
	return a
}

// fault is one that a call refuses, with its error.
type fault struct {
	name  string
	wrong api.Errno
	in    func(a *args)
}

// asked is a call: is there nothing beside its error, and the error; and what it refuses, in the chapter's order.
type asked struct {
	name   string
	of     func(a args) (bool, api.Errno)
	faults []fault
}

// flagged is a point whose error is ErrFlag, astray one whose error is ErrCurve.
func flagged() api.G1 { return api.G1{X: whole(1), Inf: true} }
func astray() api.G1  { return api.G1{X: whole(1), Y: whole(1)} }

// strange is a point of G1 whose error is ErrElement.
func strange() api.G1 { return api.G1{X: plain(prime()), Y: whole(2)} }

// ofSRS are Check's.
func ofSRS() []fault {
	return []fault{
		{"one point", api.ErrSRS, func(a *args) { a.s.G = a.s.G[:min(1, len(a.s.G))] }},
		{"no point", api.ErrSRS, func(a *args) { a.s.G = nil }},
		{"too many points", api.ErrSRS, func(a *args) {
			if len(a.s.G) > 0 {
				a.s.G = append(a.s.G, make([]api.G1, api.MaxPoints)...)
			}
		}},
		{"the first point", api.ErrCurve, func(a *args) { a.s.G[0] = astray() }},
		{"the second point", api.ErrFlag, func(a *args) { a.s.G[1] = flagged() }},
		{"the last point", api.ErrElement, func(a *args) { a.s.G[3] = strange() }},
		{"the first point at infinity", api.ErrInfinity, func(a *args) { a.s.G[0] = api.G1{Inf: true} }},
		{"One", api.ErrGroup, func(a *args) { a.s.One = outside() }},
		{"One at infinity", api.ErrInfinity, func(a *args) { a.s.One = api.G2{Inf: true} }},
		{"X", api.ErrCurve, func(a *args) { a.s.X = api.G2{} }},
	}
}

// ofList are Commit's of the i-th list. A list is never made shorter, so that each one's faults stand side by side.
func ofList(i int) []fault {
	return []fault{
		{"a long list", api.ErrDegree, func(a *args) {
			a.lists[i] = append(a.lists[i], make([]api.Fe, api.MaxDegree+1-len(a.lists[i]))...)
		}},
		{"an element", api.ErrElement, func(a *args) { a.lists[i][1] = above()[0] }},
		{"a degree", api.ErrSRS, func(a *args) {
			a.lists[i] = append(a.lists[i], make([]api.Fe, 5)...)
			a.lists[i][4] = whole(1)
		}},
	}
}

// ofAt and ofBy are those of the elements.
func ofAt() fault {
	return fault{"at", api.ErrElement, func(a *args) { a.at = above()[0] }}
}

func ofBy() fault {
	return fault{"by", api.ErrElement, func(a *args) { a.by = above()[1] }}
}

// ofClaims are VerifyAll's of its claims.
func ofClaims() []fault {
	return []fault{
		{"the first C", api.ErrCurve, func(a *args) { a.claims[0].C = astray() }},
		{"the first At", api.ErrElement, func(a *args) { a.claims[0].At = above()[2] }},
		{"the first Value", api.ErrElement, func(a *args) { a.claims[0].Value = above()[3] }},
		{"the first W", api.ErrFlag, func(a *args) { a.claims[0].W = flagged() }},
		{"the second C", api.ErrFlag, func(a *args) { a.claims[1].C = flagged() }},
		{"the second At", api.ErrElement, func(a *args) { a.claims[1].At = above()[4] }},
		{"the second Value", api.ErrElement, func(a *args) { a.claims[1].Value = above()[5] }},
		{"the second W", api.ErrCurve, func(a *args) { a.claims[1].W = astray() }},
	}
}

// ofMany are VerifyMany's.
func ofMany() []fault {
	return []fault{
		{"no commitment", api.ErrCount, func(a *args) { a.c, a.values = nil, nil }},
		{"too many", api.ErrCount, func(a *args) { a.c, a.values = make([]api.G1, 65), make([]api.Fe, 65) }},
		{"fewer values", api.ErrCount, func(a *args) { a.values = a.values[:min(1, len(a.values))] }},
		{"more values", api.ErrCount, func(a *args) { a.values = append(a.values, a.values...) }},
		{"the first commitment", api.ErrCurve, func(a *args) { a.c[0] = astray() }},
		{"the second commitment", api.ErrFlag, func(a *args) { a.c[1] = flagged() }},
		ofAt(),
		{"the first value", api.ErrElement, func(a *args) { a.values[0] = above()[2] }},
		{"the second value", api.ErrElement, func(a *args) { a.values[1] = above()[3] }},
		ofBy(),
		{"w", api.ErrFlag, func(a *args) { a.w = flagged() }},
		{"the equation", api.ErrCheck, func(a *args) { a.values[1] = plus(a.values[1], whole(1)) }},
	}
}

// openings are the calls that commit and open, with what they refuse.
func openings() []asked {
	return []asked{
		{"Commit", func(a args) (bool, api.Errno) {
			c, e := kzg.Commit(a.s, a.lists[0])
			return c == api.G1{}, e
		}, slices.Concat(ofSRS(), ofList(0))},
		{"Open", func(a args) (bool, api.Errno) {
			value, w, e := kzg.Open(a.s, a.lists[0], a.at)
			return value == api.Fe{} && w == api.G1{}, e
		}, slices.Concat(ofSRS(), ofList(0), []fault{ofAt()})},
		{"OpenMany", func(a args) (bool, api.Errno) {
			values, w, e := kzg.OpenMany(a.s, a.lists, a.at, a.by)
			return values == nil && w == api.G1{}, e
		}, slices.Concat(ofSRS(), []fault{
			{"no list", api.ErrCount, func(a *args) { a.lists = [][]api.Fe{} }},
			{"too many lists", api.ErrCount, func(a *args) { a.lists = append(a.lists, make([][]api.Fe, 65)...) }},
		}, ofList(0), ofList(1), []fault{ofAt(), ofBy()})},
	}
}

// calls are all that take an SRS.
func calls() []asked {
	return append(openings(),
		asked{"Check", func(a args) (bool, api.Errno) { return true, kzg.Check(a.s) }, ofSRS()},
		asked{"Consistent", func(a args) (bool, api.Errno) {
			is, e := kzg.Consistent(a.s)
			return !is, e
		}, ofSRS()},
		asked{"Verify", func(a args) (bool, api.Errno) { return true, kzg.Verify(a.s, a.claims[0]) },
			slices.Concat(ofSRS(), ofClaims()[:4], []fault{
				{"the equation", api.ErrCheck, func(a *args) { a.claims[0].W = curve.Gen1() }},
			})},
		asked{"VerifyMany", func(a args) (bool, api.Errno) {
			return true, kzg.VerifyMany(a.s, a.c, a.at, a.values, a.by, a.w)
		}, slices.Concat(ofSRS(), ofMany())},
		asked{"VerifyAll", func(a args) (bool, api.Errno) { return true, kzg.VerifyAll(a.s, a.claims, a.by) },
			slices.Concat(ofSRS(), []fault{
				{"no claim", api.ErrCount, func(a *args) { a.claims = nil }},
				{"too many claims", api.ErrCount, func(a *args) { a.claims = append(a.claims, make([]kzg.Claim, 65)...) }},
			}, ofClaims(), []fault{ofBy(), {"the equation", api.ErrCheck, func(a *args) { a.claims[1].C = curve.Gen1() }}})},
	)
}

// TestRefused: P8.1 to P8.3 with P4 of DOC.md, each error, nothing beside it, and the first that the chapter names, if there are two, or all from there on.
func TestRefused(t *testing.T) {
	t.Parallel()
	good := fresh()
	for _, c := range calls() {
		if _, e := c.of(good.clone()); e != api.OK {
			t.Error(c.name, "of what may be", e)
		}
		for i, first := range c.faults {
			all := good.clone()
			for j := len(c.faults) - 1; j >= i; j-- {
				a := good.clone()
				c.faults[j].in(&a)
				c.faults[j].in(&all)
				if j > i {
					first.in(&a)
				}
				if nothing, e := c.of(a); !nothing || e != first.wrong {
					t.Error(c.name, first.name, "and", c.faults[j].name, nothing, e, first.wrong)
				}
			}
			if nothing, e := c.of(all); !nothing || e != first.wrong {
				t.Error(c.name, first.name, "and all behind", nothing, e, first.wrong)
			}
		}
	}
}

// TestEveryElement: P8.2 and P8.3, ErrElement of all that is not below r, at each place.
func TestEveryElement(t *testing.T) {
	t.Parallel()
	good := fresh()
	refuse := func(call func(a args) api.Errno, in func(a *args, bad api.Fe)) {
		t.Helper()
		for _, bad := range above() {
			a := good.clone()
			in(&a, bad)
			if e := call(a); e != api.ErrElement {
				t.Error(bad, e)
			}
		}
	}
	commit := func(a args) api.Errno { _, e := kzg.Commit(a.s, a.lists[0]); return e }
	open := func(a args) api.Errno { _, _, e := kzg.Open(a.s, a.lists[0], a.at); return e }
	many := func(a args) api.Errno { _, _, e := kzg.OpenMany(a.s, a.lists, a.at, a.by); return e }
	for i := range 4 {
		refuse(commit, func(a *args, bad api.Fe) { a.lists[0][i] = bad })
		refuse(open, func(a *args, bad api.Fe) { a.lists[0][i] = bad })
		refuse(many, func(a *args, bad api.Fe) { a.lists[i%2][i/2] = bad })
	}
	refuse(commit, func(a *args, bad api.Fe) { a.lists[0] = append(a.lists[0], whole(0), bad) })
	refuse(open, func(a *args, bad api.Fe) { a.lists[0], a.at = nil, bad })
	refuse(many, func(a *args, bad api.Fe) { a.lists[0], a.lists[1], a.at = nil, nil, bad })
	refuse(many, func(a *args, bad api.Fe) { a.lists, a.by = a.lists[:1], bad })
	verify := func(a args) api.Errno { return kzg.Verify(a.s, a.claims[1]) }
	all := func(a args) api.Errno { return kzg.VerifyAll(a.s, a.claims, a.by) }
	several := func(a args) api.Errno { return kzg.VerifyMany(a.s, a.c, a.at, a.values, a.by, a.w) }
	for _, call := range []func(a args) api.Errno{verify, all} {
		refuse(call, func(a *args, bad api.Fe) { a.claims[1].At = bad })
		refuse(call, func(a *args, bad api.Fe) { a.claims[1].Value = bad })
	}
	refuse(all, func(a *args, bad api.Fe) { a.claims, a.by = a.claims[:1], bad })
	refuse(several, func(a *args, bad api.Fe) { a.at = bad })
	refuse(several, func(a *args, bad api.Fe) { a.by = bad })
	refuse(several, func(a *args, bad api.Fe) { a.values[1] = bad })
}

// TestEveryPoint: P8.2 and P8.3, of each point that may not be its own error, at each place.
func TestEveryPoint(t *testing.T) {
	t.Parallel()
	good := fresh()
	for _, bad := range bad1() {
		refuse := func(call func(a args) api.Errno, in func(a *args)) {
			t.Helper()
			a := good.clone()
			in(&a)
			if e := call(a); e != bad.wrong {
				t.Error(bad, e)
			}
		}
		verify := func(a args) api.Errno { return kzg.Verify(a.s, a.claims[1]) }
		all := func(a args) api.Errno { return kzg.VerifyAll(a.s, a.claims, a.by) }
		for _, call := range []func(a args) api.Errno{verify, all} {
			refuse(call, func(a *args) { a.claims[1].C = bad.point })
			refuse(call, func(a *args) { a.claims[1].W = bad.point })
		}
		several := func(a args) api.Errno { return kzg.VerifyMany(a.s, a.c, a.at, a.values, a.by, a.w) }
		refuse(several, func(a *args) { a.c[0] = bad.point })
		refuse(several, func(a *args) { a.c[1] = bad.point })
		refuse(several, func(a *args) { a.w = bad.point })
	}
}

// TestWhateverIsGiven: P1 of DOC.md, there is an answer to all that may not be, nil and zero values among them.
func TestWhateverIsGiven(t *testing.T) {
	t.Parallel()
	for fill := range uint64(16) {
		w := fill * 0x1111_1111_1111_1111
		x := api.Fe{w, w, w, w}
		p := api.G1{X: x, Y: x, Inf: fill%2 == 1}
		q := api.G2{X: api.E2{A: x, B: x}, Y: api.E2{A: x, B: x}, Inf: fill%3 == 1}
		for _, s := range []kzg.SRS{{}, {G: []api.G1{p, p}, One: q, X: q}, {G: []api.G1{curve.Gen1(), curve.Gen1()}, One: curve.Gen2(), X: q}, fresh().s} {
			wrong := kzg.Check(s)
			claim := kzg.Claim{C: p, At: x, Value: x, W: p}
			l := []api.Fe{x}
			_, e1 := kzg.Consistent(s)
			_, e2 := kzg.Commit(s, l)
			_, _, e3 := kzg.Open(s, l, x)
			_, _, e4 := kzg.OpenMany(s, [][]api.Fe{l, nil}, x, x)
			_, _, e5 := kzg.OpenMany(s, nil, x, x)
			e6 := kzg.Verify(s, claim)
			e7 := kzg.VerifyMany(s, []api.G1{p}, x, l, x, p)
			e8 := kzg.VerifyAll(s, []kzg.Claim{claim, {}}, x)
			e9 := kzg.VerifyAll(s, nil, x)
			for i, e := range []api.Errno{e1, e2, e3, e4, e5, e6, e7, e8, e9} {
				if wrong != api.OK && e != wrong || wrong == api.OK && i >= 4 && e == api.OK {
					t.Error("call", i, s, x, e, wrong)
				}
			}
		}
	}
}
