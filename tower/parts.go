// Package tower is layer 3, the extensions Fp2, Fp6 and Fp12: see shared/doc/03-tower.md.
package tower

import (
	"causeway/api"
	"causeway/field"
)

// What is handed in is taken modulo p first of all, so that from there on no call of field's has an element to refuse.

// rest answers a part modulo p.
func rest(a api.Fe) api.Fe {
	if field.Check(api.FieldP, a) == api.OK {
		return a
	}
	a, _ = field.Reduce(api.FieldP, api.Word{}, api.Word(a))
	return a
}

// plus answers the sum of two parts.
func plus(a api.Fe, b api.Fe) api.Fe {
	sum, _ := field.Add(api.FieldP, a, b)
	return sum
}

// minus answers the difference of two parts.
func minus(a api.Fe, b api.Fe) api.Fe {
	difference, _ := field.Sub(api.FieldP, a, b)
	return difference
}

// times answers the product of two parts.
func times(a api.Fe, b api.Fe) api.Fe {
	product, _ := field.Mul(api.FieldP, a, b)
	return product
}

// negative answers a part's negative.
func negative(a api.Fe) api.Fe {
	a, _ = field.Neg(api.FieldP, a)
	return a
}

// products answers the sum of the products, place by place.
func products(a []api.Fe, b []api.Fe) api.Fe {
	sum, _ := field.Dot(api.FieldP, a, b)
	return sum
}
