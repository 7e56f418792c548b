package tower

import (
	"causeway/api"
	"causeway/field"
)

// two is an element of Fp2 whose parts are below p.
type two api.E2

// rest2 answers an element of Fp2, its parts modulo p.
func rest2(a api.E2) two { return two{A: rest(a.A), B: rest(a.B)} }

// one2 answers one.
func one2() two { return two{A: field.Of(1)} }

// Add2 answers the sum.
func Add2(a api.E2, b api.E2) api.E2 { return api.E2(rest2(a).plus(rest2(b))) }

// Sub2 answers the difference.
func Sub2(a api.E2, b api.E2) api.E2 { return api.E2(rest2(a).minus(rest2(b))) }

// Mul2 answers the product.
func Mul2(a api.E2, b api.E2) api.E2 { return api.E2(rest2(a).times(rest2(b))) }

// Neg2 answers the negative.
func Neg2(a api.E2) api.E2 { return api.E2(two{}.minus(rest2(a))) }

// Conj2 answers A - B u.
func Conj2(a api.E2) api.E2 { return api.E2(rest2(a).conj()) }

// Xi2 answers a times 9 + u.
func Xi2(a api.E2) api.E2 { return api.E2(rest2(a).xi()) }

// Inv2 answers the inverse; ErrZero of 0.
func Inv2(a api.E2) (api.E2, api.Errno) {
	inverse, e := rest2(a).inverse()
	return api.E2(inverse), e
}

// plus answers the sum.
func (a two) plus(b two) two { return two{A: plus(a.A, b.A), B: plus(a.B, b.B)} }

// minus answers the difference.
func (a two) minus(b two) two { return two{A: minus(a.A, b.A), B: minus(a.B, b.B)} }

// times answers the product.
func (a two) times(b two) two { return sum2([]two{a}, []two{b}) }

// conj answers A - B u.
func (a two) conj() two { return two{A: a.A, B: negative(a.B)} }

// scaled answers a times an element of Fp.
func (a two) scaled(by api.Fe) two { return two{A: times(a.A, by), B: times(a.B, by)} }

// xi answers a times 9 + u.
func (a two) xi() two {
	nine := a.scaled(field.Of(9))
	return two{A: minus(nine.A, a.B), B: plus(nine.B, a.A)}
}

// inverse answers the conjugate through the norm, which is in Fp and 0 of 0 alone, for -1 is no square there.
func (a two) inverse() (two, api.Errno) {
	inverse, e := field.Inv(api.FieldP, a.norm())
	if e != api.OK {
		return two{}, e
	}
	return a.conj().scaled(inverse), api.OK
}

// norm answers a times its conjugate.
func (a two) norm() api.Fe {
	parts := []api.Fe{a.A, a.B}
	return products(parts, parts)
}

// sum2 answers the sum of the products, place by place, of three places at most. Each part of it is one sum of products in Fp, which takes less time than fewer products, one by one, and the sums between them.
func sum2(a []two, b []two) two {
	var straight, crossed, right [6]api.Fe
	for i := range a {
		straight[2*i], straight[2*i+1] = a[i].A, negative(a[i].B)
		crossed[2*i], crossed[2*i+1] = a[i].B, a[i].A
		right[2*i], right[2*i+1] = b[i].A, b[i].B
	}
	n := 2 * len(a)
	return two{A: products(straight[:n], right[:n]), B: products(crossed[:n], right[:n])}
}
