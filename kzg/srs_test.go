package kzg_test

import (
	"math"
	"testing"

	"causeway/api"
	"causeway/curve"
	"causeway/kzg"
)

// TestSetup: P8.1, the points are the generator times tau's powers; also where many are made by another way than few.
func TestSetup(t *testing.T) {
	s := source(81)
	check := func(tau api.Fe, degree int) {
		t.Helper()
		got := setup(t, tau, degree)
		if !same(got, of(tau, degree).srs()) {
			t.Error("Setup", tau, degree)
		}
		if e := kzg.Check(got); e != api.OK {
			t.Error("Check of Setup's", tau, degree, e)
		}
	}
	for _, tau := range []api.Fe{whole(1), whole(-1), whole(2), whole(-2), s.wide(), {most}, s.wide()} {
		for _, degree := range []int{1, 2, 3, 17} {
			check(tau, degree)
		}
	}
	for _, degree := range []int{510, 511, 512} {
		check(s.wide(), degree)
	}
	check(whole(-1), 511)
	check(whole(256), 520)
}

// TestGreatest: P8.1, the highest degree that there is.
func TestGreatest(t *testing.T) {
	t.Parallel()
	s := source(82)
	tau := s.wide()
	got := setup(t, tau, api.MaxPoints-1)
	if len(got.G) != api.MaxPoints || got.One != curve.Gen2() || got.X != of2(tau) {
		t.Fatal("Setup", len(got.G))
	}
	for _, i := range []int{0, 1, 2, 255, 256, 40000, api.MaxPoints - 2, api.MaxPoints - 1} {
		if got.G[i] != of1(raised(tau, i)) {
			t.Error("Setup", i)
		}
	}
	if e := kzg.Check(got); e != api.OK {
		t.Error("Check", e)
	}
}

// TestSetupRefused: P8.1, the degree's error ahead of tau's, and nothing beside it.
func TestSetupRefused(t *testing.T) {
	check := func(tau api.Fe, degree int, wrong api.Errno) {
		t.Helper()
		if got, e := kzg.Setup(tau, degree); !same(got, kzg.SRS{}) || e != wrong {
			t.Error("Setup", tau, degree, e)
		}
	}
	for _, degree := range []int{0, -1, math.MinInt, api.MaxPoints, api.MaxPoints + 1, math.MaxInt} {
		check(whole(2), degree, api.ErrRange)
		check(api.Fe{}, degree, api.ErrRange)
		check(above()[0], degree, api.ErrRange)
	}
	for _, degree := range []int{1, 3, 511, api.MaxPoints - 1} {
		check(api.Fe{}, degree, api.ErrZero)
		for _, tau := range above() {
			check(tau, degree, api.ErrElement)
		}
	}
}

// TestCheck: P8.1, OK of all that may be, of a tau or of none, also with points at infinity behind the first one, or X there.
func TestCheck(t *testing.T) {
	s := source(83)
	for _, l := range s.various() {
		if e := kzg.Check(l.srs()); e != api.OK {
			t.Error("Check", l, e)
		}
	}
	whole := kzg.SRS{G: make([]api.G1, api.MaxPoints+1), One: curve.Gen2(), X: curve.Gen2()}
	for i := range whole.G {
		whole.G[i] = curve.Gen1()
	}
	for n, wrong := range map[int]api.Errno{0: api.ErrSRS, 1: api.ErrSRS, 2: api.OK, api.MaxPoints: api.OK, api.MaxPoints + 1: api.ErrSRS} {
		some := whole
		some.G = whole.G[:n]
		if e := kzg.Check(some); e != wrong {
			t.Error("Check of points", n, e)
		}
	}
	if e := kzg.Check(kzg.SRS{}); e != api.ErrSRS {
		t.Error("Check of none", e)
	}
	whole.G = []api.G1{}
	if e := kzg.Check(whole); e != api.ErrSRS {
		t.Error("Check of no point", e)
	}
}

// TestCheckPoints: P8.1, of each point its own error, whichever it is.
func TestCheckPoints(t *testing.T) {
	good := of(whole(7), 3)
	check := func(s kzg.SRS, wrong api.Errno) {
		t.Helper()
		if e := kzg.Check(s); e != wrong {
			t.Error("Check", s, e, wrong)
		}
		if is, e := kzg.Consistent(s); is || e != wrong {
			t.Error("Consistent", s, is, e, wrong)
		}
	}
	for i := range good.g {
		for _, bad := range bad1() {
			s := good.srs()
			s.G[i] = bad.point
			check(s, bad.wrong)
		}
	}
	for _, bad := range bad2() {
		s := good.srs()
		s.One = bad.point
		check(s, bad.wrong)
		s = good.srs()
		s.X = bad.point
		check(s, bad.wrong)
	}
	s := good.srs()
	s.G[0] = api.G1{Inf: true}
	check(s, api.ErrInfinity)
	s = good.srs()
	s.One = api.G2{Inf: true}
	check(s, api.ErrInfinity)
}

// TestConsistent: P8.1 and P8.6, it holds of Setup's, and of what is one times other generators.
func TestConsistent(t *testing.T) {
	s := source(84)
	for _, l := range []logs{
		of(s.wide(), 7), of(whole(1), 2), of(whole(-1), 3), of(whole(2), 1),
		scaled(s.wide(), 5, s.wide(), s.wide()), scaled(whole(3), 2, whole(1), s.wide()),
		{g: []api.Fe{whole(1), {}, {}}, one: whole(5)}, // of tau 0
	} {
		if is, e := kzg.Consistent(l.srs()); !is || e != api.OK {
			t.Error("Consistent", l, is, e)
		}
	}
}

// TestTurned: P8.6, with one point turned it is not consistent, nor with many.
func TestTurned(t *testing.T) {
	s := source(85)
	good := of(s.wide(), 4)
	check := func(l logs) {
		t.Helper()
		if is, e := kzg.Consistent(l.srs()); is || e != api.OK {
			t.Error("Consistent", l, is, e)
		}
	}
	turn := func(by map[int]api.Fe) logs {
		l := good
		l.g = append([]api.Fe{}, good.g...)
		for i, n := range by {
			l.g[i] = plus(l.g[i], n)
		}
		return l
	}
	for i := range good.g {
		check(turn(map[int]api.Fe{i: whole(1)}))
		check(turn(map[int]api.Fe{i: s.wide()}))
		if i > 0 {
			check(turn(map[int]api.Fe{i: minus(api.Fe{}, good.g[i])})) // infinity
		}
		check(turn(map[int]api.Fe{i: times(whole(-2), good.g[i])})) // the negative
	}
	// Such that the sum of all points is the same, or the sum of what the steps are off.
	check(turn(map[int]api.Fe{1: whole(1), 3: whole(-1)}))
	check(turn(map[int]api.Fe{0: whole(1), 4: good.x}))
	check(turn(map[int]api.Fe{1: whole(1), 4: minus(good.x, whole(1))}))
	for _, x := range []api.Fe{{}, whole(1), plus(good.x, whole(1)), minus(api.Fe{}, good.x)} {
		l := good
		l.x = x
		check(l)
	}
	l := good
	l.one = whole(-1)
	check(l)
	check(logs{g: []api.Fe{whole(1), whole(3)}, one: whole(1), x: whole(2)})
	check(logs{g: []api.Fe{whole(1), {}, whole(1)}, one: whole(1)})
}
