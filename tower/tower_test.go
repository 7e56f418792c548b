package tower_test

import (
	"math"
	"math/big"
	"testing"

	"causeway/api"
	"causeway/tower"
)

// minusOne2 is -1 in Fp2.
func minusOne2() api.E2 { return api.E2{A: whole(-1)} }

// TestExamples: P3.1 and P3.3, the chapter's examples.
func TestExamples(t *testing.T) {
	u, xi := api.E2{B: api.Fe{1}}, api.E2{A: api.Fe{9}, B: api.Fe{1}}
	v := api.E6{B: api.E2{A: api.Fe{1}}}
	w := api.E12{B: api.E6{A: api.E2{A: api.Fe{1}}}}
	if got := tower.Mul2(u, u); got != minusOne2() {
		t.Error("Mul2(u, u)", got)
	}
	if got := tower.Xi2(api.E2{A: api.Fe{1}}); got != xi {
		t.Error("Xi2(1)", got)
	}
	if got := tower.Mul6(v, tower.Mul6(v, v)); got != (api.E6{A: xi}) {
		t.Error("v^3", got)
	}
	if got := tower.V6(tower.V6(v)); got != (api.E6{A: xi}) {
		t.Error("V6 of V6 of v", got)
	}
	if got := tower.Mul12(w, w); got != (api.E12{A: v}) {
		t.Error("Mul12(w, w)", got)
	}
	if got, e := tower.Sqrt2(minusOne2()); got != u || e != api.OK {
		t.Error("Sqrt2(-1)", got, e)
	}
	if got := tower.One12(); got != (api.E12{A: api.E6{A: api.E2{A: api.Fe{1}}}}) {
		t.Error("One12", got)
	}
}

// TestSums: P3.1, sums, differences and negatives, part by part.
func TestSums(t *testing.T) {
	pairs(300, 2000, func(a, b api.E12) {
		if got, want := tower.Add6(a.A, b.A), sum(a, 1, b).A; got != want {
			t.Fatal("Add6", a.A, b.A, got)
		}
		if got, want := tower.Sub6(a.A, b.A), sum(a, -1, b).A; got != want {
			t.Fatal("Sub6", a.A, b.A, got)
		}
		if got, want := tower.Neg6(a.A), sum(api.E12{}, -1, a).A; got != want {
			t.Fatal("Neg6", a.A, got)
		}
		if got, want := tower.Add2(a.B.A, b.A.B), sum(of2(a.B.A), 1, of2(b.A.B)); of2(got) != want {
			t.Fatal("Add2", a.B.A, b.A.B, got)
		}
		if got, want := tower.Sub2(a.B.A, b.A.B), sum(of2(a.B.A), -1, of2(b.A.B)); of2(got) != want {
			t.Fatal("Sub2", a.B.A, b.A.B, got)
		}
		if got, want := tower.Neg2(a.B.B), sum(api.E12{}, -1, of2(a.B.B)); of2(got) != want {
			t.Fatal("Neg2", a.B.B, got)
		}
	})
}

// TestProducts: P3.1, products, and those by 9 + u and by v.
func TestProducts(t *testing.T) {
	xi, v := of2(api.E2{A: whole(9), B: whole(1)}), ofW(api.E2{A: whole(1)}, 2)
	pairs(310, 1000, func(a, b api.E12) {
		if got, want := tower.Mul12(a, b), product(a, b); got != want {
			t.Fatal("Mul12", a, b, got)
		}
		if got, want := tower.Square12(a), product(a, a); got != want {
			t.Fatal("Square12", a, got)
		}
		if got, want := tower.Mul6(a.A, b.B), product(of6(a.A), of6(b.B)); of6(got) != want {
			t.Fatal("Mul6", a.A, b.B, got)
		}
		if got, want := tower.V6(a.B), product(of6(a.B), v); of6(got) != want {
			t.Fatal("V6", a.B, got)
		}
		if got, want := tower.Mul2(a.B.A, b.A.C), product(of2(a.B.A), of2(b.A.C)); of2(got) != want {
			t.Fatal("Mul2", a.B.A, b.A.C, got)
		}
		if got, want := tower.Xi2(a.A.B), product(of2(a.A.B), xi); of2(got) != want {
			t.Fatal("Xi2", a.A.B, got)
		}
	})
}

// TestConjugates: P3.1, A - B u and A - B w.
func TestConjugates(t *testing.T) {
	pairs(320, 1000, func(a, b api.E12) {
		want := api.E12{A: a.A, B: sum(api.E12{}, -1, a).B}
		if got := tower.Conj12(a); got != want {
			t.Fatal("Conj12", a, got)
		}
		if got := tower.Conj2(b.A.C); got.A != b.A.C.A || got.B != part(new(big.Int).Neg(toBig(b.A.C.B))) {
			t.Fatal("Conj2", b.A.C, got)
		}
	})
}

// TestInverses: P3.1, what times the element is one.
func TestInverses(t *testing.T) {
	one := tower.One12()
	pairs(330, 100, func(a, _ api.E12) {
		if a.B.C != (api.E2{}) {
			if got, e := tower.Inv2(a.B.C); product(of2(got), of2(a.B.C)) != one || e != api.OK {
				t.Fatal("Inv2", a.B.C, got, e)
			}
		}
		if a.B != (api.E6{}) {
			if got, e := tower.Inv6(a.B); product(of6(got), of6(a.B)) != one || e != api.OK || !mayBe(of6(got)) {
				t.Fatal("Inv6", a.B, got, e)
			}
		}
		if a != (api.E12{}) {
			if got, e := tower.Inv12(a); product(got, a) != one || e != api.OK || !mayBe(got) {
				t.Fatal("Inv12", a, got, e)
			}
		}
	})
}

// zeros are elements whose parts are 0, or multiples of p.
func zeros() []api.E12 {
	l := []api.E12{{}}
	for i := range 12 {
		var a, b api.E12
		*parts(&a)[i] = ofBig(prime())
		for j, x := range parts(&b) {
			*x = ofBig(new(big.Int).Mul(prime(), big.NewInt(int64((i+j)%6))))
		}
		l = append(l, a, b)
	}
	return l
}

// TestNoInverse: P3.1 and P4 of DOC.md, ErrZero of 0, of multiples of p too, and nothing beside it.
func TestNoInverse(t *testing.T) {
	for _, a := range zeros() {
		if got, e := tower.Inv2(a.A.A); got != (api.E2{}) || e != api.ErrZero {
			t.Error("Inv2", a.A.A, got, e)
		}
		if got, e := tower.Inv6(a.A); got != (api.E6{}) || e != api.ErrZero {
			t.Error("Inv6", a.A, got, e)
		}
		if got, e := tower.Inv12(a); got != (api.E12{}) || e != api.ErrZero {
			t.Error("Inv12", a, got, e)
		}
	}
}

// TestFrobenius: P3.1, a to the p^n, for all n modulo 12, below 0 and far off too.
func TestFrobenius(t *testing.T) {
	s := source(340)
	l := append(edges()[1:13], s.twelve(), s.element(func() api.Fe { return part(toBig(s.number())) }))
	for _, a := range l {
		power := a
		for n := range 12 {
			for _, m := range []int{n, n - 12, n + 12, n - 12000, n + 144, math.MaxInt - math.MaxInt%12 - 12 + n, math.MinInt - math.MinInt%12 + n} {
				if got := tower.Frob12(a, m); got != power {
					t.Fatal("Frob12", a, m, got)
				}
			}
			power = toThe(power, prime())
		}
		if power != a {
			t.Fatal("to the p^12", a, power)
		}
	}
	a := l[len(l)-1]
	low, high := (math.MinInt%12+12)%12, math.MaxInt%12
	if tower.Frob12(a, math.MinInt) != tower.Frob12(a, low) || tower.Frob12(a, math.MaxInt) != tower.Frob12(a, high) {
		t.Error("Frob12 of the lowest and the highest int")
	}
}

// TestPowers: P3.1, a to the n; to the 0 it is one, of 0 too.
func TestPowers(t *testing.T) {
	s := source(350)
	numbers := []api.Word{{}, {1}, {2}, {3}, {4}, {5}, {6}, {7}, {most}, {0, 1}, {1, 1}, {0, 0, 1}, {0, 0, 0, 1}, {0, 0, 0, 1 << 63}, {most, most, most, most}, s.number(), s.number()}
	for _, n := range numbers {
		for _, a := range []api.E12{{}, tower.One12(), ofW(api.E2{A: whole(1)}, 1), ofW(api.E2{B: whole(-3)}, 4), s.twelve(), s.twelve()} {
			if got, want := tower.Exp12(a, n), toThe(a, toBig(n)); got != want {
				t.Fatal("Exp12", a, n, got)
			}
		}
	}
	if got := tower.Exp12(api.E12{}, api.Word{}); got != tower.One12() {
		t.Error("0 to the 0", got)
	}
	if got := tower.Exp12(api.E12{}, api.Word{0, 0, 1}); got != (api.E12{}) {
		t.Error("0 to the 2^128", got)
	}
}
