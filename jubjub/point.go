package jubjub

import (
	"causeway/api"
	"causeway/field"
	"causeway/limbs"
)

// The curve's a, which is a square, and its d, which is none: so no denominator of the law is ever 0, and a is never d times a square.
const (
	factorA = 168700
	factorD = 168696
)

// timesA answers a's product with the curve's a.
func timesA(a api.Fe) api.Fe { return times(field.Of(factorA), a) }

// timesD answers a's product with the curve's d.
func timesD(a api.Fe) api.Fe { return times(field.Of(factorD), a) }

// onCurve: does the curve's equation hold?
func onCurve(x api.Fe, y api.Fe) bool {
	x, y = squared(x), squared(y)
	return plus(timesA(x), y) == plus(field.Of(1), timesD(times(x, y)))
}

// point is a point of the curve whose X is x / z and whose Y is y / z; z is never 0.
type point struct {
	x, y, z api.Fe
}

// pointOf answers a point that is On, to be reckoned with.
func pointOf(p api.Ed) point { return point{p.X, p.Y, field.Of(1)} }

// told answers X and Y.
func (p point) told() api.Ed {
	inverse := over(field.Of(1), p.z)
	return api.Ed{X: times(p.x, inverse), Y: times(p.y, inverse)}
}

// isNeutral: is it (0, 1)?
func (p point) isNeutral() bool { return p.x == api.Fe{} && p.y == p.z }

// plus answers the sum by the curve's law, both fractions brought to one denominator.
func (p point) plus(q point) point {
	z := times(p.z, q.z)
	x, y := times(p.x, q.x), times(p.y, q.y)
	both := timesD(times(x, y))
	square := squared(z)
	more, less := plus(square, both), minus(square, both)
	// Both products across, by one product and not by two.
	across := minus(minus(times(plus(p.x, p.y), plus(q.x, q.y)), x), y)
	return point{
		times(times(z, less), across),
		times(times(z, more), minus(y, timesA(x))),
		times(less, more),
	}
}

// doubled answers the sum of p and itself: by the curve's equation the law's denominators are a x^2 + y^2 and 2 less that, which takes fewer products.
func (p point) doubled() point {
	x, y, z := squared(p.x), squared(p.y), squared(p.z)
	across := minus(minus(squared(plus(p.x, p.y)), x), y)
	x = timesA(x)
	more := plus(x, y)
	less := minus(plus(z, z), more)
	return point{times(across, less), times(more, minus(y, x)), times(more, less)}
}

const (
	digitBits = 4
	digits    = 1 << digitBits
)

// times answers n times p, digit by digit, from the highest one that is not 0.
func (p point) times(n api.Word) point {
	multiples := p.multiples()
	sum := pointOf(Neutral())
	places := (limbs.Len(n) + digitBits - 1) / digitBits
	for i := range places {
		for range digitBits {
			sum = sum.doubled()
		}
		place := places - 1 - i
		digit := limbs.Shr(n, place*digitBits)[0] % digits
		sum = sum.plus(multiples[digit])
	}
	return sum
}

// multiples answers p's multiples by each digit, from 0 on.
func (p point) multiples() [digits]point {
	var l [digits]point
	l[0] = pointOf(Neutral())
	for i := 1; i < digits; i++ {
		l[i] = l[i-1].plus(p)
	}
	return l
}
