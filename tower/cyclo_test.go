package tower_test

import (
	"math/big"
	"testing"

	"causeway/api"
	"causeway/tower"
)

// inCyclo is the chapter's own words, by calls that other tests hold.
func inCyclo(a api.E12) bool {
	one := tower.Mul12(tower.Frob12(a, 6), a) == tower.One12()
	return a != (api.E12{}) && one && tower.Mul12(tower.Frob12(a, 4), a) == tower.Frob12(a, 2)
}

// checkCyclo holds InCyclo and Cyclo12 against what is so and what it makes.
func checkCyclo(t *testing.T, a api.E12, in bool) {
	t.Helper()
	if inCyclo(reduced(a)) != in {
		t.Fatal("the test's own words", a, in)
	}
	if got := tower.InCyclo(a); got != in {
		t.Fatal("InCyclo", a, got)
	}
	want, wrong := api.E12{}, api.ErrGroup
	if in {
		want, wrong = product(a, a), api.OK
	}
	if got, e := tower.Cyclo12(a); got != want || e != wrong {
		t.Fatal("Cyclo12", a, got, e)
	}
}

// TestInCyclo: P3.2, what is in the cyclotomic subgroup, its square, and what is not, however near.
func TestInCyclo(t *testing.T) {
	s := source(400)
	checkCyclo(t, tower.One12(), true)
	for range 60 {
		a := s.twelve()
		if a == (api.E12{}) {
			continue
		}
		b := cyclotomic(a)
		checkCyclo(t, b, true)
		checkCyclo(t, tower.Exp12(b, s.number()), true)
		checkCyclo(t, tower.Frob12(b, int(s.word()%12)), true)
		checkCyclo(t, tower.Conj12(b), true)
		// One part more or less, and multiples by what is in Fp.
		for i := range 12 {
			near := b
			x := parts(&near)[i]
			*x = part(new(big.Int).Add(toBig(*x), big.NewInt(1)))
			checkCyclo(t, near, false)
		}
		for _, n := range []int64{-1, 2, 3} {
			checkCyclo(t, product(b, of2(api.E2{A: whole(n)})), false)
		}
		checkCyclo(t, a, inCyclo(a))
	}
}

// TestZeroIsNot: P3.2 and P4 of DOC.md, 0 is not in the subgroup, though it solves an equation; nor are multiples of p.
func TestZeroIsNot(t *testing.T) {
	for _, a := range zeros() {
		checkCyclo(t, a, false)
	}
}

// TestOneConditionAlone: P3.2, elements that keep one of the conditions, or a part of one.
func TestOneConditionAlone(t *testing.T) {
	s := source(410)
	for _, a := range edges() {
		checkCyclo(t, a, a == tower.One12())
	}
	for range 60 {
		a := s.twelve()
		inverse, e := tower.Inv12(a)
		if e != api.OK {
			continue
		}
		// To the p^6 - 1: the first condition alone.
		checkCyclo(t, tower.Mul12(tower.Conj12(a), inverse), false)
		checkCyclo(t, tower.Mul12(tower.Frob12(a, 2), a), false)
		for i := range 6 {
			near := sum(tower.One12(), 1, ofW(s.two(), i))
			checkCyclo(t, near, inCyclo(near))
			checkCyclo(t, ofW(api.E2{A: whole(-2), B: s.part()}, i), false)
		}
	}
}

// TestCycloFollows: P3.6, in the subgroup the conjugate is the inverse and Cyclo12 is Square12.
func TestCycloFollows(t *testing.T) {
	s := source(420)
	for range 100 {
		a := s.twelve()
		if a == (api.E12{}) {
			continue
		}
		b := cyclotomic(a)
		if inverse, e := tower.Inv12(b); inverse != tower.Conj12(b) || e != api.OK {
			t.Fatal("Conj12", b, inverse, e)
		}
		if square, e := tower.Cyclo12(b); square != tower.Square12(b) || e != api.OK {
			t.Fatal("Cyclo12", b, square, e)
		}
	}
}
