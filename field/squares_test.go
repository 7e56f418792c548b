package field_test

import (
	"math/big"
	"testing"

	"causeway/api"
	"causeway/field"
)

// lowerRoot is the lower root by another program's means; nil of no square.
func lowerRoot(f api.Field, a api.Fe) *big.Int {
	root := new(big.Int).ModSqrt(toBig(a), modulus(f))
	if root == nil {
		return nil
	}
	other := new(big.Int).Sub(modulus(f), root)
	if root.Sign() != 0 && other.Cmp(root) < 0 {
		return other
	}
	return root
}

// checkSquare holds Legendre and Sqrt against another program's answers.
func checkSquare(t *testing.T, f api.Field, a api.Fe) {
	t.Helper()
	if got, e := field.Legendre(f, a); got != big.Jacobi(toBig(a), modulus(f)) || e != api.OK {
		t.Fatal("Legendre", f, a, got, e)
	}
	want, wrong := api.Fe{}, api.ErrSquare
	if root := lowerRoot(f, a); root != nil {
		want, wrong = element(f, root), api.OK
	}
	if got, e := field.Sqrt(f, a); got != want || e != wrong {
		t.Fatal("Sqrt", f, a, got, e)
	}
}

// TestSquares: P2.3, squares, what is none, and the lower root.
func TestSquares(t *testing.T) {
	for _, f := range both() {
		for _, a := range edges(f) {
			checkSquare(t, f, a)
		}
		s := source(140 + f)
		for range 500 {
			a := s.element(f)
			checkSquare(t, f, a)
			checkSquare(t, f, element(f, new(big.Int).Mul(toBig(a), toBig(a))))
		}
		for n := range int64(100) {
			checkSquare(t, f, whole(f, n))
			checkSquare(t, f, whole(f, -n))
		}
	}
}

// TestRootsOfOne: P2.3, elements whose order is a power of 2, alone and times another: the root is found in as many steps as there may be.
func TestRootsOfOne(t *testing.T) {
	f := api.FieldR
	m := modulus(f)
	last := new(big.Int).Sub(m, big.NewInt(1))
	root := new(big.Int).Exp(big.NewInt(5), new(big.Int).Rsh(last, 28), m)
	s := source(150)
	for range 30 {
		checkSquare(t, f, element(f, root))
		for range 10 {
			odd := new(big.Int).Mul(root, toBig(s.element(f)))
			checkSquare(t, f, element(f, odd))
			// To the 2^28 the other's order is odd, so that the root of one alone decides.
			part := new(big.Int).Exp(toBig(s.element(f)), power(28), m)
			checkSquare(t, f, element(f, part.Mul(part, root)))
			turns := new(big.Int).Exp(root, toBig(s.number()), m)
			checkSquare(t, f, element(f, turns))
		}
		root.Exp(root, big.NewInt(2), m)
	}
}

// TestSquareExamples: P2.3, the chapter's examples, and 0.
func TestSquareExamples(t *testing.T) {
	for _, f := range both() {
		if got, e := field.Sqrt(f, api.Fe{}); got != (api.Fe{}) || e != api.OK {
			t.Error("Sqrt(0)", f, got, e)
		}
		if got, e := field.Legendre(f, api.Fe{}); got != 0 || e != api.OK {
			t.Error("Legendre(0)", f, got, e)
		}
		for n := range uint64(50) {
			if got, e := field.Sqrt(f, field.Of(n*n)); got != field.Of(n) || e != api.OK {
				t.Error("Sqrt of", n*n, f, got, e)
			}
		}
	}
	if got, e := field.Sqrt(api.FieldP, api.Fe(less(api.FieldP, 1))); got != (api.Fe{}) || e != api.ErrSquare {
		t.Error("Sqrt(-1) in Fp", got, e)
	}
	root, e := field.Sqrt(api.FieldR, api.Fe(less(api.FieldR, 1)))
	if square, _ := field.Mul(api.FieldR, root, root); e != api.OK || square != api.Fe(less(api.FieldR, 1)) {
		t.Error("Sqrt(-1) in Fr", root, e)
	}
	if got, e := field.Legendre(api.FieldR, field.Of(5)); got != -1 || e != api.OK {
		t.Error("Legendre(5) in Fr", got, e)
	}
	if got, e := field.Sqrt(api.FieldR, field.Of(5)); got != (api.Fe{}) || e != api.ErrSquare {
		t.Error("Sqrt(5) in Fr", got, e)
	}
}

// TestLower: P2.3, below its negative as a number, or 0.
func TestLower(t *testing.T) {
	for _, f := range both() {
		l := edges(f)
		s := source(160 + f)
		for range 5000 {
			l = append(l, s.element(f))
		}
		for _, a := range l {
			other := new(big.Int).Sub(modulus(f), toBig(a))
			want := toBig(a).Cmp(other) < 0
			if got, e := field.Lower(f, a); got != want || e != api.OK {
				t.Fatal("Lower", f, a, got, e)
			}
		}
		half := new(big.Int).Rsh(modulus(f), 1)
		for by, want := range []bool{true, false} {
			a := element(f, new(big.Int).Add(half, big.NewInt(int64(by))))
			if got, e := field.Lower(f, a); got != want || e != api.OK {
				t.Error("Lower at the middle", f, by, got, e)
			}
		}
	}
}
