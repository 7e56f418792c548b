package pairing_test

import (
	"math/big"
	"testing"

	"causeway/api"
	"causeway/curve"
	"causeway/pairing"
	"causeway/tower"
)

// ofW is c w^i.
func ofW(c api.E2, i int) api.E12 {
	var a api.E12
	*[6]*api.E2{&a.A.A, &a.B.A, &a.A.B, &a.B.B, &a.A.C, &a.B.C}[i] = c
	return a
}

// edges are elements with few parts, and all parts alike; not 0.
func edges() []api.E12 {
	var l []api.E12
	for _, c := range []api.E2{{A: api.Fe{1}}, {B: api.Fe{1}}, {A: rest(big.NewInt(-1))}, {A: api.Fe{9}, B: api.Fe{1}}} {
		for i := range 6 {
			l = append(l, ofW(c, i))
		}
	}
	for _, n := range []int64{1, -1, 2} {
		var a api.E12
		for _, x := range parts(&a) {
			*x = rest(big.NewInt(n))
		}
		l = append(l, a)
	}
	return l
}

// cyclotomic is a to the (p^6 - 1) (p^2 + 1), which is in the cyclotomic subgroup; a is not 0.
func cyclotomic(a api.E12) api.E12 {
	inverse, _ := tower.Inv12(a)
	b := tower.Mul12(tower.Conj12(a), inverse)
	return tower.Mul12(tower.Frob12(b, 2), b)
}

// final is Final's answer to what it takes.
func final(t *testing.T, a api.E12) api.E12 {
	t.Helper()
	got, e := pairing.Final(a)
	if e != api.OK {
		t.Fatal("Final", a, e)
	}
	return got
}

// TestFinal: P6.2, the power (p^12 - 1) / r.
func TestFinal(t *testing.T) {
	s := source(21)
	l := append(edges(), pair(t, of1(1), of2(1)))
	for range 10 {
		l = append(l, s.element(), cyclotomic(s.element()))
	}
	n := lastPower()
	for _, a := range l {
		if got := final(t, a); got != raised(a, n) {
			t.Error("Final", a, got)
		}
	}
	// What is in Fp6 becomes one.
	for range 5 {
		if got := final(t, api.E12{A: s.element().A}); got != tower.One12() {
			t.Error("Final of an element of Fp6", got)
		}
	}
}

// TestFinalRefused: P6.2 and P4 of DOC.md, ErrElement of each part that is not below p, ErrZero of 0, and nothing beside them.
func TestFinalRefused(t *testing.T) {
	if got, e := pairing.Final(api.E12{}); got != (api.E12{}) || e != api.ErrZero {
		t.Error("Final of 0", got, e)
	}
	one := tower.One12()
	for _, a := range []api.E12{{}, one, source2().element()} {
		for i := range 12 {
			for _, x := range above() {
				// A multiple of p is no 0 either.
				b := a
				*parts(&b)[i] = x
				if got, e := pairing.Final(b); got != (api.E12{}) || e != api.ErrElement {
					t.Error("Final", b, got, e)
				}
				if pairing.InGroup(b) {
					t.Error("InGroup", b)
				}
			}
			// The highest number that is an element.
			b := a
			*parts(&b)[i] = rest(big.NewInt(-1))
			if got, e := pairing.Final(b); got == (api.E12{}) || e != api.OK {
				t.Error("Final", b, got, e)
			}
		}
	}
}

// source2 is a source of its own.
func source2() *source {
	s := source(22)
	return &s
}

// TestInGroup: P6.2, is the r-th power one?
func TestInGroup(t *testing.T) {
	s := source(23)
	if pairing.InGroup(api.E12{}) || !pairing.InGroup(tower.One12()) {
		t.Error("InGroup of 0 and of one")
	}
	e := pair(t, of1(1), of2(1))
	l := append(edges(), e, tower.Conj12(e))
	for i := range 12 {
		a := s.element()
		c := cyclotomic(a)
		// Of the cyclotomic subgroup, but of an order that r is no part of.
		other := tower.Exp12(c, curve.Order())
		power := tower.Exp12(e, s.number())
		l = append(l, a, c, other, tower.Mul12(other, power), power, tower.Frob12(e, i), final(t, a))
		l = append(l, tower.Mul12(power, small(rest(big.NewInt(-1)))))
		near := power
		*parts(&near)[i] = rest(new(big.Int).Add(number(*parts(&near)[i]), big.NewInt(1)))
		l = append(l, near)
	}
	in := 0
	for _, a := range l {
		want := tower.Exp12(a, curve.Order()) == tower.One12()
		if got := pairing.InGroup(a); got != want {
			t.Error("InGroup", a, got)
		}
		if want {
			in++
		}
	}
	if in < 36 || len(l)-in < 60 {
		t.Error("too few are in the group, or out of it", in, len(l))
	}
}

// TestInGroupParts: P6.2, what is in the group modulo p, but with a part that is not below it, is not.
func TestInGroupParts(t *testing.T) {
	e := pair(t, of1(1), of2(1))
	for _, a := range []api.E12{tower.One12(), e} {
		for i := range 12 {
			b := a
			x := parts(&b)[i]
			*x = api.Fe(word(new(big.Int).Add(number(*x), prime())))
			if !pairing.InGroup(a) || pairing.InGroup(b) {
				t.Error("InGroup", a, b)
			}
		}
	}
}

// TestSubgroups: P6.2, roots of one whose order is small, and not r.
func TestSubgroups(t *testing.T) {
	s := source(24)
	whole := new(big.Int).Exp(prime(), big.NewInt(12), nil)
	whole.Sub(whole, big.NewInt(1))
	found := 0
	for _, n := range []int64{2, 3, 4, 5, 6, 7, 8, 9, 12, 13, 17, 24, 36} {
		m, left := new(big.Int).DivMod(whole, big.NewInt(n), new(big.Int))
		if left.Sign() != 0 {
			continue
		}
		a := raised(s.element(), m)
		if a == tower.One12() {
			continue
		}
		found++
		if pairing.InGroup(a) {
			t.Error("InGroup of a root of one", n, a)
		}
	}
	if found < 5 {
		t.Error("too few roots of one", found)
	}
}
