package curve_test

import (
	"math/big"

	"causeway/api"
)

const most = 1<<64 - 1

// digits is the number of decimal digits.
func digits(s string) *big.Int {
	n, _ := new(big.Int).SetString(s, 10)
	return n
}

// modulus and groupOrder are read once: the reference takes them at each step.
var (
	modulus    = digits("21888242871839275222246405745257275088696311157297823662689037894645226208583")
	groupOrder = digits("21888242871839275222246405745257275088548364400416034343698204186575808495617")
)

// prime is p and order is r, from the document's digits; cofactor is how often r points of the twist there are.
func prime() *big.Int { return new(big.Int).Set(modulus) }
func order() *big.Int { return new(big.Int).Set(groupOrder) }

func cofactor() *big.Int {
	twice := new(big.Int).Lsh(prime(), 1)
	return twice.Sub(twice, order())
}

// toBig is the number by another program's means.
func toBig(a [4]uint64) *big.Int {
	out := new(big.Int)
	for i := range a {
		out.Lsh(out, 64)
		out.Or(out, new(big.Int).SetUint64(a[3-i]))
	}
	return out
}

// ofBig is the number's four lowest words.
func ofBig(n *big.Int) [4]uint64 {
	mask := new(big.Int).SetUint64(most)
	var a [4]uint64
	for i := range a {
		a[i] = new(big.Int).And(new(big.Int).Rsh(n, uint(64*i)), mask).Uint64()
	}
	return a
}

// part is the number modulo p; of one below 0, too.
func part(n *big.Int) api.Fe { return ofBig(new(big.Int).Mod(n, prime())) }

// wide is an element of Fp2 by another program's means; one of Fp has no second part.
type wide struct{ a, b *big.Int }

// ofE2 and e2 lead from api's form and back.
func ofE2(x api.E2) wide    { return wide{toBig(x.A), toBig(x.B)} }
func (x wide) e2() api.E2   { return api.E2{A: part(x.a), B: part(x.b)} }
func whole(a, b int64) wide { return wide{big.NewInt(a), big.NewInt(b)} }

// mod is x with its parts from 0 to p - 1.
func (x wide) mod() wide { return wide{x.a.Mod(x.a, modulus), x.b.Mod(x.b, modulus)} }

func (x wide) plus(y wide) wide {
	return wide{new(big.Int).Add(x.a, y.a), new(big.Int).Add(x.b, y.b)}.mod()
}

func (x wide) minus(y wide) wide {
	return wide{new(big.Int).Sub(x.a, y.a), new(big.Int).Sub(x.b, y.b)}.mod()
}

func (x wide) times(y wide) wide {
	a, b := new(big.Int).Mul(x.a, y.a), new(big.Int).Mul(x.a, y.b)
	return wide{a.Sub(a, new(big.Int).Mul(x.b, y.b)), b.Add(b, new(big.Int).Mul(x.b, y.a))}.mod()
}

func (x wide) conj() wide { return wide{new(big.Int).Set(x.a), new(big.Int).Neg(x.b)}.mod() }

func (x wide) inverse() wide {
	norm := x.times(x.conj())
	return x.conj().times(wide{norm.a.ModInverse(norm.a, modulus), new(big.Int)})
}

// to is the n-th power.
func (x wide) to(n *big.Int) wide {
	out := whole(1, 0)
	for i := n.BitLen() - 1; i >= 0; i-- {
		out = out.times(out)
		if n.Bit(i) == 1 {
			out = out.times(x)
		}
	}
	return out
}

func (x wide) is(y wide) bool { return x.a.Cmp(y.a) == 0 && x.b.Cmp(y.b) == 0 }

// spot is a point of either curve by another program's means: chord and tangent, with a quotient for each slope.
type spot struct {
	x, y wide
	inf  bool
}

func nowhere() spot { return spot{whole(0, 0), whole(0, 0), true} }

func (p spot) negative() spot { return spot{p.x, whole(0, 0).minus(p.y), p.inf} }

func (p spot) plus(q spot) spot {
	if p.inf {
		return q
	}
	if q.inf {
		return p
	}
	up, across := q.y.minus(p.y), q.x.minus(p.x)
	if p.x.is(q.x) {
		if !p.y.is(q.y) || p.y.is(whole(0, 0)) {
			return nowhere()
		}
		up, across = whole(3, 0).times(p.x).times(p.x), p.y.plus(p.y)
	}
	slope := up.times(across.inverse())
	x := slope.times(slope).minus(p.x).minus(q.x)
	return spot{x, slope.times(p.x.minus(x)).minus(p.y), false}
}

// times is p added n times.
func (p spot) times(n *big.Int) spot {
	out := nowhere()
	for i := n.BitLen() - 1; i >= 0; i-- {
		out = out.plus(out)
		if n.Bit(i) == 1 {
			out = out.plus(p)
		}
	}
	return out
}

// doubles are the point times the powers of 2, from which many multiples of it are made by sums alone.
func (p spot) doubles() []spot {
	l := []spot{p}
	for len(l) < 256 {
		p = p.plus(p)
		l = append(l, p)
	}
	return l
}

// chosen is the sum of those doubles at whose place n has a 1.
func chosen(doubles []spot, n *big.Int) spot {
	out := nowhere()
	for i, p := range doubles {
		if n.Bit(i) == 1 {
			out = out.plus(p)
		}
	}
	return out
}

// twistConstant is 3 / (9 + u).
func twistConstant() wide { return whole(3, 0).times(whole(9, 1).inverse()) }

// solves: is y^2 = x^3 and the constant?
func (p spot) solves(constant wide) bool {
	return p.y.times(p.y).is(p.x.times(p.x).times(p.x).plus(constant))
}

// g1 and g2 are the point in api's forms; spot1 and spot2 lead back.
func (p spot) g1() api.G1 { return api.G1{X: part(p.x.a), Y: part(p.y.a), Inf: p.inf} }
func (p spot) g2() api.G2 { return api.G2{X: p.x.e2(), Y: p.y.e2(), Inf: p.inf} }
func spot2(p api.G2) spot { return spot{ofE2(p.X), ofE2(p.Y), p.Inf} }
func spot1(p api.G1) spot { return spot2(api.G2{X: api.E2{A: p.X}, Y: api.E2{A: p.Y}, Inf: p.Inf}) }
