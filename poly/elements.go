package poly

import (
	"causeway/api"
	"causeway/field"
)

// What is reckoned with was checked first of all, so that from there on no call of field's has an element to refuse.

// one answers the element 1.
func one() api.Fe { return field.Of(1) }

// plus answers the sum.
func plus(a api.Fe, b api.Fe) api.Fe {
	sum, _ := field.Add(api.FieldR, a, b)
	return sum
}

// minus answers the difference.
func minus(a api.Fe, b api.Fe) api.Fe {
	difference, _ := field.Sub(api.FieldR, a, b)
	return difference
}

// times answers the product.
func times(a api.Fe, b api.Fe) api.Fe {
	product, _ := field.Mul(api.FieldR, a, b)
	return product
}

// inverse answers the inverse of what is not 0.
func inverse(a api.Fe) api.Fe {
	a, _ = field.Inv(api.FieldR, a)
	return a
}

// raised answers a to the n, which is not below 0.
func raised(a api.Fe, n int) api.Fe {
	power, _ := field.Exp(api.FieldR, a, api.Word{uint64(n)})
	return power
}
