package jubjub_test

import (
	"math/big"
	"slices"
	"testing"

	"causeway/api"
)

// The chapter's words taken one by one, by numbers of any size.

// spot is a point by its X and Y.
type spot struct{ x, y *big.Int }

func (p spot) ed() api.Ed { return api.Ed{X: element(p.x), Y: element(p.y)} }

func spotOf(p api.Ed) spot { return spot{number(p.X), number(p.Y)} }

func (p spot) is(q spot) bool { return p.x.Cmp(q.x) == 0 && p.y.Cmp(q.y) == 0 }

func neutral() spot { return spot{whole(0), whole(1)} }

func base() spot {
	return spot{
		digits("5299619240641551281634865583518297030282874472190772894086521144482721001553"),
		digits("16950150798460657717958625567821834550301663161624707787222815936182638968203"),
	}
}

// mod is the rest modulo r.
func mod(n *big.Int) *big.Int { return new(big.Int).Mod(n, modulus()) }

// product is that of all.
func product(l ...*big.Int) *big.Int {
	n := whole(1)
	for _, a := range l {
		n = mod(n.Mul(n, a))
	}
	return n
}

// over is a / b.
func over(a, b *big.Int) *big.Int {
	return product(a, new(big.Int).ModInverse(mod(b), modulus()))
}

func curveA() *big.Int { return whole(168700) }

func curveD() *big.Int { return whole(168696) }

// solves: does the curve's equation hold?
func (p spot) solves() bool {
	left := new(big.Int).Add(product(curveA(), p.x, p.x), product(p.y, p.y))
	right := new(big.Int).Add(whole(1), product(curveD(), p.x, p.x, p.y, p.y))
	return mod(left).Cmp(mod(right)) == 0
}

// plus is the sum by the curve's law.
func (p spot) plus(q spot) spot {
	both := product(curveD(), p.x, q.x, p.y, q.y)
	across := new(big.Int).Add(product(p.x, q.y), product(p.y, q.x))
	along := new(big.Int).Sub(product(p.y, q.y), product(curveA(), p.x, q.x))
	return spot{
		over(across, new(big.Int).Add(whole(1), both)),
		over(along, new(big.Int).Sub(whole(1), both)),
	}
}

func (p spot) negative() spot { return spot{mod(new(big.Int).Neg(p.x)), p.y} }

// times is n times the point, bit by bit.
func (p spot) times(n *big.Int) spot {
	sum := neutral()
	for i := n.BitLen() - 1; i >= 0; i-- {
		sum = sum.plus(sum)
		if n.Bit(i) == 1 {
			sum = sum.plus(p)
		}
	}
	return sum
}

// isHigh: is X above (r - 1) / 2?
func (p spot) isHigh() bool {
	half := new(big.Int).Sub(modulus(), whole(1))
	return p.x.Cmp(half.Rsh(half, 1)) > 0
}

// withY is the point with that Y and the higher or the lower X, of an X of 0 that one; false if there is none.
func withY(y *big.Int, high bool) (spot, bool) {
	square := over(new(big.Int).Sub(whole(1), product(y, y)), new(big.Int).Sub(curveA(), product(curveD(), y, y)))
	x := new(big.Int).ModSqrt(square, modulus())
	if x == nil {
		return spot{}, false
	}
	p := spot{x, y}
	if p.isHigh() != high {
		p = p.negative()
	}
	return p, true
}

// bytes are the point's 32.
func (p spot) bytes() []byte {
	b := p.y.FillBytes(make([]byte, size))
	slices.Reverse(b)
	if p.isHigh() {
		b[31] += 128
	}
	return b
}

// read is the point of bytes, and the error.
func read(b []byte) (api.Ed, api.Errno) {
	if len(b) != 32 {
		return api.Ed{}, api.ErrCount
	}
	high := b[31] >= 128
	l := slices.Clone(b)
	slices.Reverse(l)
	y := new(big.Int).SetBytes(l)
	if high {
		y.Sub(y, new(big.Int).Lsh(whole(1), 255))
	}
	if y.Cmp(modulus()) >= 0 {
		return api.Ed{}, api.ErrElement
	}
	p, is := withY(y, high)
	switch {
	case !is:
		return api.Ed{}, api.ErrCurve
	case high && p.x.Sign() == 0:
		return api.Ed{}, api.ErrFlag
	case !p.times(order()).is(neutral()):
		return api.Ed{}, api.ErrPoint
	}
	return p.ed(), api.OK
}

// mustBe tells whether a call answers the point, and no error.
func mustBe(t *testing.T, what string, got api.Ed, e api.Errno, want spot) {
	t.Helper()
	if e != api.OK || got != want.ed() {
		t.Error(what, got, e, "and not", want)
	}
}
