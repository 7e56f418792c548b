package pairing

import (
	"causeway/api"
	"causeway/curve"
	"causeway/field"
	"causeway/tower"
)

// walk is a pair on its way through the loop: at is the multiple of q so far. Neither p nor q is infinity.
type walk struct {
	p  api.G1
	q  api.G2
	at spot
}

// spot is a point of the twist in Jacobian coordinates: its X is x / z^2, its Y is y / z^3.
type spot struct{ x, y, z api.E2 }

// begun answers the walk of p and q where it begins, at q.
func begun(p api.G1, q api.G2) walk {
	return walk{p, q, spot{q.X, q.Y, api.E2{A: field.Of(1)}}}
}

// loop answers the product, over the walks, of what goes into the last power.
//
// At a digit of -1 it is the line through the point and -q. By that f differs from the document's in upright lines alone: their values are in Fp6, and the last power makes them one. No line of the walks themselves stands upright, nor is a chord a tangent: q's order is r, and by none of the digits, nor at the end, does a walk stand at the point that it goes on by, or at its negative.
func loop(walks []walk) api.E12 {
	f := tower.One12()
	digits := signed(loopLength())
	for i := places - 2; i >= 0; i-- {
		f = tower.Square12(f)
		for j := range walks {
			f = walks[j].step(inPowers(f), digits[i]).out()
		}
	}
	for j := range walks {
		f = walks[j].end(inPowers(f)).out()
	}
	return f
}

// step answers f times the lines of a digit.
func (w *walk) step(f powers, digit int) powers {
	f = f.times(w.tangent())
	if digit != 0 {
		q := w.q
		if digit < 0 {
			q.Y = tower.Neg2(q.Y)
		}
		f = f.times(w.chord(q))
	}
	return f
}

// end answers f times the last two lines.
func (w *walk) end(f powers) powers {
	q, _ := curve.Psi2(w.q)
	f = f.times(w.chord(q))
	q, _ = curve.Psi2(q)
	q, _ = curve.Neg2(q)
	return f.times(w.chord(q))
}

// tangent answers the tangent where the walk is, which goes to twice that.
func (w *walk) tangent() line {
	x, y, z := w.at.x, w.at.y, w.at.z
	slope := tripled(squared(x)) // over the next z
	next := doubled(tower.Mul2(y, z))
	zz, yy := squared(z), doubled(squared(y)) // z^2, and twice y^2
	l := through(w.p, tower.Mul2(next, zz), tower.Mul2(slope, zz), tower.Sub2(tower.Mul2(slope, x), yy))
	base := doubled(tower.Mul2(x, yy))
	w.at.x = tower.Sub2(squared(slope), doubled(base))
	w.at.y = tower.Sub2(tower.Mul2(slope, tower.Sub2(base, w.at.x)), doubled(squared(yy)))
	w.at.z = next
	return l
}

// chord answers the line through q and where the walk is, which goes to their sum.
func (w *walk) chord(q api.G2) line {
	x, y, z := w.at.x, w.at.y, w.at.z
	zz := squared(z)
	across := tower.Sub2(tower.Mul2(q.X, zz), x)
	slope := tower.Sub2(tower.Mul2(q.Y, tower.Mul2(zz, z)), y) // over the next z
	next := tower.Mul2(z, across)
	l := through(w.p, next, slope, tower.Sub2(tower.Mul2(slope, q.X), tower.Mul2(next, q.Y)))
	aside := squared(across)
	cube, base := tower.Mul2(aside, across), tower.Mul2(x, aside)
	w.at.x = tower.Sub2(tower.Sub2(squared(slope), cube), doubled(base))
	w.at.y = tower.Sub2(tower.Mul2(slope, tower.Sub2(base, w.at.x)), tower.Mul2(y, cube))
	w.at.z = next
	return l
}

// squared answers a times a.
func squared(a api.E2) api.E2 { return tower.Mul2(a, a) }

// doubled answers a and a.
func doubled(a api.E2) api.E2 { return tower.Add2(a, a) }

// tripled answers a, a and a.
func tripled(a api.E2) api.E2 { return tower.Add2(doubled(a), a) }
