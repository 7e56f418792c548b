package kzg

import (
	"causeway/api"
	"causeway/field"
)

// elements answers ErrElement if one of all is not below r.
func elements(l ...api.Fe) api.Errno {
	for _, a := range l {
		if e := field.Check(api.FieldR, a); e != api.OK {
			return e
		}
	}
	return api.OK
}

// What is reckoned with was checked first of all, so that from there on no call of field's or curve's has anything to refuse.

// times answers the product.
func times(a api.Fe, b api.Fe) api.Fe {
	product, _ := field.Mul(api.FieldR, a, b)
	return product
}

// negative answers the negative.
func negative(a api.Fe) api.Fe {
	a, _ = field.Neg(api.FieldR, a)
	return a
}

// powers answers so many powers, the 0th first: 1, of 0 too.
func powers(of api.Fe, count int) []api.Fe {
	l := make([]api.Fe, count)
	next := field.Of(1)
	for i := range l {
		l[i] = next
		next = times(next, of)
	}
	return l
}
