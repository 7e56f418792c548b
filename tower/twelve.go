package tower

import (
	"causeway/api"
	"causeway/limbs"
)

// twelve is an element of Fp12: what stands before 1 and w.
type twelve [2]six

// rest12 answers an element of Fp12, its parts modulo p.
func rest12(a api.E12) twelve { return twelve{rest6(a.A), rest6(a.B)} }

// out answers the element in api's form.
func (a twelve) out() api.E12 { return api.E12{A: a[0].out(), B: a[1].out()} }

// one12 answers one.
func one12() twelve { return twelve{one6()} }

// One12 answers one.
func One12() api.E12 { return one12().out() }

// Mul12 answers the product.
func Mul12(a api.E12, b api.E12) api.E12 { return rest12(a).times(rest12(b)).out() }

// Square12 answers a times a.
func Square12(a api.E12) api.E12 { return rest12(a).square().out() }

// Conj12 answers A - B w.
func Conj12(a api.E12) api.E12 { return rest12(a).conj().out() }

// Inv12 answers the inverse; ErrZero of 0.
func Inv12(a api.E12) (api.E12, api.Errno) {
	inverse, e := rest12(a).inverse()
	return inverse.out(), e
}

// Exp12 answers a to the n; to the 0 it is one, of 0 too.
func Exp12(a api.E12, n api.Word) api.E12 { return rest12(a).power(n).out() }

// times answers the product. By Karatsuba: what stands before w is the product of the sums less both products.
func (a twelve) times(b twelve) twelve {
	low, high := a[0].times(b[0]), a[1].times(b[1])
	all := a[0].plus(a[1]).times(b[0].plus(b[1]))
	return twelve{low.plus(high.v()), all.minus(low).minus(high)}
}

// square answers a times a by two products: (A + B) (A + v B) is A^2 + v B^2, and A B one time and v times.
func (a twelve) square() twelve {
	mixed := a[0].times(a[1])
	all := a[0].plus(a[1]).times(a[0].plus(a[1].v()))
	return twelve{all.minus(mixed).minus(mixed.v()), mixed.plus(mixed)}
}

// conj answers A - B w.
func (a twelve) conj() twelve { return twelve{a[0], six{}.minus(a[1])} }

// inverse answers the conjugate through the norm, which is in Fp6 and 0 of 0 alone, for v is no square there.
func (a twelve) inverse() (twelve, api.Errno) {
	inverse, e := a[0].times(a[0]).minus(a[1].times(a[1]).v()).inverse()
	if e != api.OK {
		return twelve{}, e
	}
	conj := a.conj()
	return twelve{conj[0].times(inverse), conj[1].times(inverse)}, api.OK
}

// power answers a to the n.
func (a twelve) power(n api.Word) twelve {
	result := one12()
	length := limbs.Len(n)
	for i := range length {
		result = result.square()
		if limbs.Bit(n, length-1-i) == 1 {
			result = result.times(a)
		}
	}
	return result
}
