package curve

import (
	"causeway/api"
	"causeway/field"
	"causeway/tower"
)

// element is an element of the field over which a curve lies, with all that is reckoned there. What is reckoned with is below the modulus, so that the layers below have nothing to refuse.
type element[E any] interface {
	comparable
	mayBe() bool
	plus(b E) E
	minus(b E) E
	times(b E) E
	inverse() E
	one() E
	constant() E // of the curve's equation: what y^2 is more than x^3
}

// single is an element of Fp.
type single api.Fe

// mayBe: is it below p?
func (a single) mayBe() bool { return field.Check(api.FieldP, api.Fe(a)) == api.OK }

// plus answers the sum.
func (a single) plus(b single) single {
	sum, _ := field.Add(api.FieldP, api.Fe(a), api.Fe(b))
	return single(sum)
}

// minus answers the difference.
func (a single) minus(b single) single {
	difference, _ := field.Sub(api.FieldP, api.Fe(a), api.Fe(b))
	return single(difference)
}

// times answers the product.
func (a single) times(b single) single {
	product, _ := field.Mul(api.FieldP, api.Fe(a), api.Fe(b))
	return single(product)
}

// inverse answers the inverse of what is not 0.
func (a single) inverse() single {
	inverse, _ := field.Inv(api.FieldP, api.Fe(a))
	return single(inverse)
}

// one answers one.
func (single) one() single { return single(field.Of(1)) }

// constant answers 3.
func (single) constant() single { return single(field.Of(3)) }

// pair is an element of Fp2.
type pair api.E2

// mayBe: are both parts below p?
func (a pair) mayBe() bool { return single(a.A).mayBe() && single(a.B).mayBe() }

// plus answers the sum.
func (a pair) plus(b pair) pair { return pair(tower.Add2(api.E2(a), api.E2(b))) }

// minus answers the difference.
func (a pair) minus(b pair) pair { return pair(tower.Sub2(api.E2(a), api.E2(b))) }

// times answers the product.
func (a pair) times(b pair) pair { return pair(tower.Mul2(api.E2(a), api.E2(b))) }

// inverse answers the inverse of what is not 0.
func (a pair) inverse() pair {
	inverse, _ := tower.Inv2(api.E2(a))
	return pair(inverse)
}

// one answers one.
func (pair) one() pair { return pair{A: field.Of(1)} }

// constant answers 3 / (9 + u).
func (pair) constant() pair {
	return pair{
		A: api.Fe{0x3267e6dc24a138e5, 0xb5b4c5e559dbefa3, 0x81be18991be06ac3, 0x2b149d40ceb8aaae},
		B: api.Fe{0xe4a2bd0685c315d2, 0xa74fa084e52d1852, 0xcd2cafadeed8fdf4, 0x009713b03af0fed4},
	}
}
