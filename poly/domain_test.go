package poly_test

import (
	"math"
	"math/big"
	"testing"

	"causeway/api"
	"causeway/poly"
)

// noDomains are logs of which there is no domain.
func noDomains() []int {
	return []int{-1, -2, -16, -28, -64, math.MinInt32, math.MinInt, api.MaxLog + 1, 30, 31, 32, 63, 64, 65, 256, 1 << 16, math.MaxInt32, math.MaxInt}
}

// TestRoot: P7.1 and P7.6, the powers of 5, each next one squared is the one ahead.
func TestRoot(t *testing.T) {
	for log := range api.MaxLog + 1 {
		got, e := poly.Root(log)
		if got != rootOf(log) || e != api.OK {
			t.Error("Root", log, got, e)
		}
		if log > 0 {
			if half, _ := poly.Root(log - 1); times(got, got) != half {
				t.Error("Root squared", log)
			}
		}
	}
	if one, _ := poly.Root(0); one != whole(1) {
		t.Error("Root(0)", one)
	}
	if minus, _ := poly.Root(1); minus != whole(-1) {
		t.Error("Root(1)", minus)
	}
	for _, log := range noDomains() {
		if got, e := poly.Root(log); got != (api.Fe{}) || e != api.ErrDomain {
			t.Error("Root", log, got, e)
		}
	}
}

// lagrange is the basis polynomial's value by its definition: the product over the other places of what x is more than them, divided by what the place is more than them.
func lagrange(log int, i int, x api.Fe) api.Fe {
	above, below := big.NewInt(1), big.NewInt(1)
	place := number(raised(rootOf(log), int64(i)))
	for j := range 1 << log {
		if j == i {
			continue
		}
		other := number(raised(rootOf(log), int64(j)))
		above.Mul(above, new(big.Int).Sub(number(x), other)).Mod(above, order())
		below.Mul(below, new(big.Int).Sub(place, other)).Mod(below, order())
	}
	return element(above.Mul(above, below.ModInverse(below, order())))
}

// TestLagrange: P7.3, at any place, and at the domain's 1 or 0.
func TestLagrange(t *testing.T) {
	s := source(41)
	for log := range 6 {
		for i := range 1 << log {
			for _, x := range append(list(0, 1, -1, 5), s.wide()) {
				if got, e := poly.Lagrange(log, i, x); got != lagrange(log, i, x) || e != api.OK {
					t.Fatal("Lagrange", log, i, x, got, e)
				}
			}
			for j := range 1 << log {
				want := whole(0)
				if i == j {
					want = whole(1)
				}
				if got, e := poly.Lagrange(log, i, raised(rootOf(log), int64(j))); got != want || e != api.OK {
					t.Fatal("Lagrange in the domain", log, i, j, got, e)
				}
			}
		}
	}
}

// TestLagrangeGreat: P7.3, over domains of which no values are told. A place's polynomial is the 0th one's, turned; that one is the sum of all powers below 2^log, divided by their count: by x - 1 the vanishing polynomial.
func TestLagrangeGreat(t *testing.T) {
	s := source(42)
	for log := 6; log <= api.MaxLog; log++ {
		size := int64(1) << log
		for _, i := range []int64{0, 1, 2, size / 2, size - 2, size - 1, int64(s.word() % uint64(size))} {
			turned := raised(rootOf(log), -i)
			for _, x := range append(list(0, -1, 3), s.wide()) {
				y := number(times(x, turned))
				want := new(big.Int).Exp(y, big.NewInt(size), order())
				want.Sub(want, big.NewInt(1))
				below := y.Sub(y, big.NewInt(1)).Mul(y, big.NewInt(size))
				below.Mod(below, order())
				if below.Sign() == 0 {
					want = big.NewInt(1)
				} else {
					want.Mul(want, below.ModInverse(below, order()))
				}
				if got, e := poly.Lagrange(log, int(i), x); got != element(want) || e != api.OK {
					t.Fatal("Lagrange", log, i, x, got, e)
				}
			}
			place := raised(rootOf(log), i)
			if got, e := poly.Lagrange(log, int(i), place); got != whole(1) || e != api.OK {
				t.Error("Lagrange at its place", log, i, got, e)
			}
			if got, e := poly.Lagrange(log, int(i), times(place, rootOf(log))); got != whole(0) || e != api.OK {
				t.Error("Lagrange at the next place", log, i, got, e)
			}
		}
	}
}

// TestLagrangeRefused: P7.3 and P4 of DOC.md, ErrElement ahead of ErrDomain ahead of ErrArg.
func TestLagrangeRefused(t *testing.T) {
	refuse := func(log int, i int, x api.Fe, wrong api.Errno) {
		t.Helper()
		if got, e := poly.Lagrange(log, i, x); got != (api.Fe{}) || e != wrong {
			t.Error("Lagrange", log, i, x, got, e, wrong)
		}
	}
	for _, x := range above() {
		refuse(3, 2, x, api.ErrElement)
		refuse(-1, 2, x, api.ErrElement)
		refuse(3, 8, x, api.ErrElement)
	}
	for _, log := range noDomains() {
		for _, i := range []int{0, 1, -1, math.MaxInt, math.MinInt} {
			refuse(log, i, whole(7), api.ErrDomain)
		}
	}
	for log := range api.MaxLog + 1 {
		for _, i := range []int{-1, math.MinInt, math.MinInt + 1, 1 << log, 1<<log + 1, 2 << log, math.MaxInt} {
			refuse(log, i, whole(7), api.ErrArg)
			refuse(log, i, whole(1), api.ErrArg)
		}
	}
}
