package tower_test

import (
	"math/big"
	"testing"

	"causeway/api"
	"causeway/tower"
)

// isSquare2: by another program's means, is the norm a square in Fp?
func isSquare2(a api.E2) bool {
	x, y := toBig(a.A), toBig(a.B)
	norm := new(big.Int).Add(x.Mul(x, x), y.Mul(y, y))
	return big.Jacobi(norm.Mod(norm, prime()), prime()) >= 0
}

// isChosen: is it, of the two roots, the one that the chapter chooses?
func isChosen(a api.E2) bool {
	decides := a.B
	if a.B == (api.Fe{}) {
		decides = a.A
	}
	other := new(big.Int).Sub(prime(), toBig(decides))
	return decides == (api.Fe{}) || toBig(decides).Cmp(other) < 0
}

// checkRoot holds Sqrt2 against squares.
func checkRoot(t *testing.T, a api.E2) {
	t.Helper()
	got, e := tower.Sqrt2(a)
	if !isSquare2(a) {
		if got != (api.E2{}) || e != api.ErrSquare {
			t.Fatal("Sqrt2 of no square", a, got, e)
		}
		return
	}
	if square := product(of2(got), of2(got)); e != api.OK || square != reduced(of2(a)) || !isChosen(got) || !mayBe(of2(got)) {
		t.Fatal("Sqrt2", a, got, e)
	}
}

// TestRoots: P3.3, of squares a root, the chosen one, and ErrSquare of others.
func TestRoots(t *testing.T) {
	s := source(500)
	for range 500 {
		a := api.E2{A: part(toBig(s.number())), B: part(toBig(s.number()))}
		checkRoot(t, a)
		square := tower.Mul2(a, a)
		checkRoot(t, square)
		checkRoot(t, tower.Xi2(square))
		checkRoot(t, tower.Neg2(square))
		checkRoot(t, s.two())
		if got, e := tower.Sqrt2(square); e != api.OK || got != a && got != tower.Neg2(a) {
			t.Fatal("Sqrt2 of a square", a, got, e)
		}
		if got, e := tower.Sqrt2(tower.Xi2(square)); got != (api.E2{}) || e != api.ErrSquare {
			t.Fatal("9 + u is no square", a, got, e)
		}
	}
}

// TestRootsOfParts: P3.3, elements of Fp and elements of Fp times u: of those the root is in Fp or in Fp times u.
func TestRootsOfParts(t *testing.T) {
	s := source(510)
	for n := int64(-60); n <= 60; n++ {
		checkRoot(t, api.E2{A: whole(n)})
		checkRoot(t, api.E2{B: whole(n)})
		checkRoot(t, api.E2{A: whole(n), B: whole(7 - n)})
	}
	for range 200 {
		x := s.part()
		checkRoot(t, api.E2{A: x})
		checkRoot(t, api.E2{B: x})
		square := toBig(x)
		square.Mul(square, square)
		root, other := toBig(x), new(big.Int).Sub(prime(), toBig(x))
		if other.Cmp(root) < 0 {
			root = other
		}
		if got, e := tower.Sqrt2(api.E2{A: part(square)}); got != (api.E2{A: part(root)}) || e != api.OK {
			t.Fatal("Sqrt2 of a square of Fp", x, got, e)
		}
		if got, e := tower.Sqrt2(api.E2{A: part(square.Neg(square))}); got != (api.E2{B: part(root)}) || e != api.OK {
			t.Fatal("Sqrt2 of a negative one", x, got, e)
		}
	}
	if got, e := tower.Sqrt2(api.E2{}); got != (api.E2{}) || e != api.OK {
		t.Error("Sqrt2(0)", got, e)
	}
}

// TestChosenRoot: P3.3, the lower B decides, not the lower A.
func TestChosenRoot(t *testing.T) {
	half := new(big.Int).Rsh(prime(), 1)
	next := new(big.Int).Add(half, big.NewInt(1))
	for _, x := range []api.Fe{whole(1), whole(-1), part(half), part(next), whole(5), whole(-5)} {
		for _, y := range []api.Fe{whole(1), part(half), whole(2)} {
			a := api.E2{A: x, B: y}
			for _, b := range []api.E2{a, tower.Neg2(a)} {
				if got, e := tower.Sqrt2(tower.Mul2(b, b)); got != a || e != api.OK {
					t.Error("Sqrt2 of the square of", b, got, e)
				}
			}
		}
	}
}
