package curve

import "causeway/api"

// point is a point in Jacobian coordinates: its X is x / z^2 and its Y is y / z^3; infinity, if z is 0.
type point[E element[E]] struct {
	x, y, z E
}

// checked answers the point that is told by X, Y and whether it is infinity; the error, if it is not on its curve.
func checked[E element[E]](x E, y E, infinity bool) (point[E], api.Errno) {
	var zero E
	switch {
	case infinity && (x != zero || y != zero):
		return point[E]{}, api.ErrFlag
	case infinity:
		return point[E]{}, api.OK
	case !x.mayBe() || !y.mayBe():
		return point[E]{}, api.ErrElement
	case y.times(y) != x.times(x).times(x).plus(x.constant()):
		return point[E]{}, api.ErrCurve
	}
	return point[E]{x, y, x.one()}, api.OK
}

// told answers X, Y and whether it is infinity.
func (p point[E]) told() (E, E, bool) {
	if p.isInfinity() {
		var zero E
		return zero, zero, true
	}
	if p.z == p.z.one() {
		return p.x, p.y, false
	}
	inverse := p.z.inverse()
	square := inverse.times(inverse)
	return p.x.times(square), p.y.times(square.times(inverse)), false
}

// isInfinity: is it?
func (p point[E]) isInfinity() bool {
	var zero E
	return p.z == zero
}

// negative answers the negative.
func (p point[E]) negative() point[E] {
	var zero E
	p.y = zero.minus(p.y)
	return p
}

// plus answers the sum by the chord, or, of a point and itself, by the tangent.
func (p point[E]) plus(q point[E]) point[E] {
	if p.isInfinity() {
		return q
	}
	if q.isInfinity() {
		return p
	}
	px, py := p.beside(q)
	qx, qy := q.beside(p)
	across, up := qx.minus(px), qy.minus(py)
	var zero E
	if across == zero && up == zero {
		return p.doubled()
	}
	// If up alone is not 0, the two are opposite: z comes out 0, as it must.
	square := across.times(across)
	cube := square.times(across)
	base := px.times(square)
	x := up.times(up).minus(cube).minus(base.plus(base))
	y := up.times(base.minus(x)).minus(py.times(cube))
	return point[E]{x, y, q.stretched(p.z).times(across)}
}

// beside answers what p's x and y are over the product of both z. Most points come with a z that is one: then nothing is to be done for them.
func (p point[E]) beside(q point[E]) (E, E) {
	if q.z == q.z.one() {
		return p.x, p.y
	}
	square := q.z.times(q.z)
	return p.x.times(square), p.y.times(square.times(q.z))
}

// stretched answers by times z.
func (p point[E]) stretched(by E) E {
	if p.z == p.z.one() {
		return by
	}
	return by.times(p.z)
}

// doubled answers the sum of p and itself; of infinity z comes out 0 again.
func (p point[E]) doubled() point[E] {
	square := p.x.times(p.x)
	slope := square.plus(square).plus(square)
	square = p.y.times(p.y)
	twice := square.plus(square)
	four := twice.plus(twice)
	base := p.x.times(four)
	x := slope.times(slope).minus(base.plus(base))
	y := slope.times(base.minus(x)).minus(four.times(twice))
	return point[E]{x, y, p.stretched(p.y.plus(p.y))}
}

// total answers the sum of all.
func total[E element[E]](l []point[E]) point[E] {
	var sum point[E]
	for _, p := range l {
		sum = sum.plus(p)
	}
	return sum
}
