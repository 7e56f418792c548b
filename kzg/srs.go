package kzg

import (
	"causeway/api"
	"causeway/curve"
	"causeway/pairing"
	"causeway/points"
)

// SRS is a structured reference string: of a tau, G has the generator of G1 times tau^i, by i; One is the generator of G2, X tau times it.
type SRS struct {
	G   []api.G1
	One api.G2
	X   api.G2
}

// Setup answers the SRS of a tau, for polynomials up to that degree; ErrRange if there is none of that degree, ErrElement or ErrZero of a tau that may not be.
func Setup(tau api.Fe, degree int) (SRS, api.Errno) {
	if degree < 1 || degree >= api.MaxPoints {
		return SRS{}, api.ErrRange
	}
	if e := elements(tau); e != api.OK {
		return SRS{}, e
	}
	if tau == (api.Fe{}) {
		return SRS{}, api.ErrZero
	}
	x, _ := curve.Mul2(curve.Gen2(), api.Word(tau))
	return SRS{multiples(powers(tau, degree+1)), curve.Gen2(), x}, api.OK
}

// Check answers why s may not be: ErrSRS of too few or too many points; the first error of one of them, ErrInfinity if the first one is infinity; One's error, ErrInfinity if it is infinity, X's error.
func Check(s SRS) api.Errno {
	if len(s.G) < 2 || len(s.G) > api.MaxPoints {
		return api.ErrSRS
	}
	if e := onCurve(s.G...); e != api.OK {
		return e
	}
	if s.G[0].Inf {
		return api.ErrInfinity
	}
	if e := points.Check2(s.One); e != api.OK {
		return e
	}
	if s.One.Inf {
		return api.ErrInfinity
	}
	return points.Check2(s.X)
}

// Consistent: is each of s' points, times what X is of One, the next one? Check's error.
//
// Each step is asked for itself: one equation for the sum of some of them would hold of steps too that are wrong, but whose faults make up for one another.
func Consistent(s SRS) (bool, api.Errno) {
	if e := Check(s); e != api.OK {
		return false, e
	}
	for i := range len(s.G) - 1 {
		if !matches(s, s.G[i+1], s.G[i]) {
			return false, api.OK
		}
	}
	return true, api.OK
}

// matches: is e(left, One) the same as e(right, X)? All points are good.
func matches(s SRS, left api.G1, right api.G1) bool {
	less, _ := curve.Neg1(right)
	is, _ := pairing.Check([]api.G1{left, less}, []api.G2{s.One, s.X})
	return is
}
