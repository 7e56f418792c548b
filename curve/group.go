package curve

import "causeway/api"

// group is one of the two curves: how its points come in to be reckoned with, or are refused, and how they go out.
type group[G any, E element[E]] struct {
	in  func(p G) (point[E], api.Errno)
	out func(p point[E]) G
}

// first answers the curve over Fp.
func first() group[api.G1, single] { return group[api.G1, single]{in1, out1} }

// second answers the twist.
func second() group[api.G2, pair] { return group[api.G2, pair]{in2, out2} }

func in1(p api.G1) (point[single], api.Errno) {
	return checked(single(p.X), single(p.Y), p.Inf)
}

func out1(p point[single]) api.G1 {
	x, y, infinity := p.told()
	return api.G1{X: api.Fe(x), Y: api.Fe(y), Inf: infinity}
}

func in2(p api.G2) (point[pair], api.Errno) {
	return checked(pair(p.X), pair(p.Y), p.Inf)
}

func out2(p point[pair]) api.G2 {
	x, y, infinity := p.told()
	return api.G2{X: api.E2(x), Y: api.E2(y), Inf: infinity}
}

// allIn answers the points; the error of the first that is refused.
func (g group[G, E]) allIn(l []G) ([]point[E], api.Errno) {
	points := make([]point[E], len(l))
	for i := range l {
		p, e := g.in(l[i])
		if e != api.OK {
			return nil, e
		}
		points[i] = p
	}
	return points, api.OK
}

// negative answers the negative.
func (g group[G, E]) negative(p G) (G, api.Errno) {
	q, e := g.in(p)
	if e != api.OK {
		var none G
		return none, e
	}
	return g.out(q.negative()), api.OK
}

// sum answers the sum of all; ErrCount of more than MaxPoints.
func (g group[G, E]) sum(l []G) (G, api.Errno) {
	var none G
	if len(l) > api.MaxPoints {
		return none, api.ErrCount
	}
	points, e := g.allIn(l)
	if e != api.OK {
		return none, e
	}
	return g.out(total(points)), api.OK
}

// multi answers the sum of all, each times its number; ErrCount if there are not as many of both, or more than MaxPoints.
func (g group[G, E]) multi(l []G, n []api.Word) (G, api.Errno) {
	var none G
	if len(l) != len(n) || len(l) > api.MaxPoints {
		return none, api.ErrCount
	}
	points, e := g.allIn(l)
	if e != api.OK {
		return none, e
	}
	return g.out(multiples(points, n)), api.OK
}
