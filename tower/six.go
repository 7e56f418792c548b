package tower

import "causeway/api"

// six is an element of Fp6: what stands before 1, v and v^2.
type six [3]two

// rest6 answers an element of Fp6, its parts modulo p.
func rest6(a api.E6) six { return six{rest2(a.A), rest2(a.B), rest2(a.C)} }

// out answers the element in api's form.
func (a six) out() api.E6 {
	return api.E6{A: api.E2(a[0]), B: api.E2(a[1]), C: api.E2(a[2])}
}

// one6 answers one.
func one6() six { return six{one2()} }

// both answers what do makes of two elements of Fp6.
func both(a api.E6, b api.E6, do func(a six, b six) six) api.E6 {
	return do(rest6(a), rest6(b)).out()
}

// Add6 answers the sum.
func Add6(a api.E6, b api.E6) api.E6 { return both(a, b, six.plus) }

// Sub6 answers the difference.
func Sub6(a api.E6, b api.E6) api.E6 { return both(a, b, six.minus) }

// Mul6 answers the product.
func Mul6(a api.E6, b api.E6) api.E6 { return both(a, b, six.times) }

// Neg6 answers the negative.
func Neg6(a api.E6) api.E6 { return both(api.E6{}, a, six.minus) }

// V6 answers a times v.
func V6(a api.E6) api.E6 { return rest6(a).v().out() }

// Inv6 answers the inverse; ErrZero of 0.
func Inv6(a api.E6) (api.E6, api.Errno) {
	inverse, e := rest6(a).inverse()
	return inverse.out(), e
}

// plus answers the sum.
func (a six) plus(b six) six {
	for i := range a {
		a[i] = a[i].plus(b[i])
	}
	return a
}

// minus answers the difference.
func (a six) minus(b six) six {
	for i := range a {
		a[i] = a[i].minus(b[i])
	}
	return a
}

// times answers the product: what comes to stand before v^3 and v^4 stands 9 + u times before 1 and v.
func (a six) times(b six) six {
	b1, b2 := b[1].xi(), b[2].xi()
	return six{
		sum2(a[:], []two{b[0], b2, b1}),
		sum2(a[:], []two{b[1], b[0], b2}),
		sum2(a[:], []two{b[2], b[1], b[0]}),
	}
}

// v answers a times v.
func (a six) v() six { return six{a[2].xi(), a[0], a[1]} }

// inverse answers the product of a's two conjugates over Fp2 through the norm, which is a times that product: it is in Fp2, and 0 of 0 alone.
func (a six) inverse() (six, api.Errno) {
	others := six{
		a[0].times(a[0]).minus(a[1].times(a[2]).xi()),
		a[2].times(a[2]).xi().minus(a[0].times(a[1])),
		a[1].times(a[1]).minus(a[0].times(a[2])),
	}
	inverse, e := a.times(others)[0].inverse()
	if e != api.OK {
		return six{}, e
	}
	for i := range others {
		others[i] = others[i].times(inverse)
	}
	return others, api.OK
}
