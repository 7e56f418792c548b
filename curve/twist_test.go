package curve_test

import (
	"math/big"
	"testing"

	"causeway/api"
	"causeway/curve"
)

// TestIn2: P4.3, what is in G2, and what is on the twist alone, of small order or of great, beside a point of G2 or not.
func TestIn2(t *testing.T) {
	s := source(800)
	check := func(p spot, in bool) {
		t.Helper()
		if p.times(order()).inf != in {
			t.Fatal("the test's own point", p, in)
		}
		if got := curve.In2(p.g2()); got != in {
			t.Error("In2", p, got)
		}
	}
	check(nowhere(), true)
	g := spot2(curve.Gen2())
	check(g, true)
	for range 8 {
		in, out, small := spot2(s.two()), spot2(s.twist()), spot2(s.small())
		check(in, true)
		check(in.negative(), true)
		check(in.plus(g), true)
		check(g.times(toBig(s.number())), true)
		check(out, false)
		check(small, false)
		check(small.plus(g), false)
		check(out.times(order()), false)
		check(out.times(order()).plus(in), false)
	}
	// The orders that divide the cofactor: 10069, 5864401, and what is left.
	n := new(big.Int).Mul(cofactor(), order())
	for _, order := range []*big.Int{big.NewInt(5864401), new(big.Int).Div(cofactor(), big.NewInt(10069*5864401))} {
		check(spot2(s.twist()).times(new(big.Int).Div(n, order)), false)
	}
}

// TestPsi2: P4.3, the map by its own words, on all the twist.
func TestPsi2(t *testing.T) {
	less := new(big.Int).Sub(prime(), big.NewInt(1))
	third := whole(9, 1).to(new(big.Int).Div(less, big.NewInt(3)))
	half := whole(9, 1).to(new(big.Int).Div(less, big.NewInt(2)))
	f := two()
	s := source(810)
	for _, p := range append(f.points(811), s.twist(), s.twist(), s.two(), s.small()) {
		q := spot2(p)
		want := spot{q.x.conj().times(third), q.y.conj().times(half), q.inf}
		if got, e := curve.Psi2(p); got != want.g2() || e != api.OK {
			t.Error("Psi2", p, got, e)
		}
	}
	if got, e := curve.Psi2(api.G2{Inf: true}); got != (api.G2{Inf: true}) || e != api.OK {
		t.Error("Psi2 of infinity", got, e)
	}
}

// TestPsiFollows: P4.6, a map of groups; in G2 it is Mul by p; on all the twist it solves its equation.
func TestPsiFollows(t *testing.T) {
	f := two()
	psi := func(p api.G2) api.G2 { return sure(t)(curve.Psi2(p)) }
	add := func(p, q api.G2) api.G2 { return sure(t)(curve.Add2(p, q)) }
	mul := func(p api.G2, n *big.Int) api.G2 { return sure(t)(curve.Mul2(p, ofBig(n))) }
	trace := new(big.Int).Sub(prime(), order())
	trace.Add(trace, big.NewInt(1))
	s := source(820)
	points := append(f.points(821), s.twist(), s.two(), s.small())
	for i, p := range points {
		q := points[(i*7+3)%len(points)]
		if psi(add(p, q)) != add(psi(p), psi(q)) {
			t.Error("Psi2 of a sum", p, q)
		}
		if curve.In2(p) && (psi(p) != mul(p, prime()) || psi(p) != mul(p, new(big.Int).Mod(prime(), order()))) {
			t.Error("Psi2 in G2", p)
		}
		less := sure(t)(curve.Neg2(mul(psi(p), trace)))
		if got := add(add(psi(psi(p)), less), mul(p, prime())); got != f.infinity() {
			t.Error("the equation of Psi2", p, got)
		}
	}
}
