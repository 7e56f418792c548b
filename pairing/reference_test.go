package pairing_test

import (
	"math/big"

	"causeway/api"
	"causeway/curve"
	"causeway/tower"
)

// The chapter's words, one by one, over Fp12 and with no short way, by tower's calls that other tests hold.

// spot is a point over Fp12, on y^2 = x^3 + 3.
type spot struct {
	x, y     api.E12
	infinity bool
}

// untwisted is the point (X w^2, Y w^3); w^3 is v w.
func untwisted(q api.G2) spot {
	return spot{x: api.E12{A: api.E6{B: q.X}}, y: api.E12{B: api.E6{B: q.Y}}, infinity: q.Inf}
}

// small is an element of Fp, over Fp12.
func small(a api.Fe) api.E12 { return api.E12{A: api.E6{A: api.E2{A: a}}} }

// less is the difference.
func less(a, b api.E12) api.E12 {
	return api.E12{A: tower.Sub6(a.A, b.A), B: tower.Sub6(a.B, b.B)}
}

// over is the quotient.
func over(a, b api.E12) api.E12 {
	b, _ = tower.Inv12(b)
	return tower.Mul12(a, b)
}

// line is the line through the two points, or the tangent at one, at a point of G1, and the points' sum.
func line(one, two spot, at api.G1) (api.E12, spot) {
	a, b := small(at.X), small(at.Y)
	var slope api.E12
	switch {
	case one.infinity || two.infinity:
		panic("no line")
	case one.x != two.x:
		slope = over(less(two.y, one.y), less(two.x, one.x))
	case one.y == two.y:
		slope = over(tower.Mul12(small(api.Fe{3}), tower.Square12(one.x)), tower.Mul12(small(api.Fe{2}), one.y))
	default:
		return less(a, one.x), spot{infinity: true}
	}
	x := less(less(tower.Square12(slope), one.x), two.x)
	y := less(tower.Mul12(slope, less(one.x, x)), one.y)
	value := less(less(b, one.y), tower.Mul12(slope, less(a, one.x)))
	return value, spot{x: x, y: y}
}

// walked is f_n(q, p), and n times q.
func walked(n *big.Int, q spot, p api.G1) (api.E12, spot) {
	f, t := tower.One12(), q
	for i := n.BitLen() - 2; i >= 0; i-- {
		var value api.E12
		value, t = line(t, t, p)
		f = tower.Mul12(tower.Mul12(f, f), value)
		if n.Bit(i) == 1 {
			value, t = line(t, q, p)
			f = tower.Mul12(f, value)
		}
	}
	return f, t
}

// raised is a to the n, of any length.
func raised(a api.E12, n *big.Int) api.E12 {
	result := tower.One12()
	for i := n.BitLen() - 1; i >= 0; i-- {
		result = tower.Square12(result)
		if n.Bit(i) == 1 {
			result = tower.Mul12(result, a)
		}
	}
	return result
}

// lastPower is (p^12 - 1) / r.
func lastPower() *big.Int {
	n := new(big.Int).Exp(prime(), big.NewInt(12), nil)
	return n.Sub(n, big.NewInt(1)).Div(n, order())
}

// paired is the pairing.
func paired(p api.G1, q api.G2) api.E12 {
	if p.Inf || q.Inf {
		return tower.One12()
	}
	n := digits("4965661367192848881")
	f, at := walked(n.Add(n.Mul(n, big.NewInt(6)), big.NewInt(2)), untwisted(q), p)
	q1, _ := curve.Psi2(q)
	q2, _ := curve.Psi2(q1)
	for _, by := range []api.G2{q1, minus2(q2)} {
		var value api.E12
		value, at = line(at, untwisted(by), p)
		f = tower.Mul12(f, value)
	}
	return raised(f, lastPower())
}
