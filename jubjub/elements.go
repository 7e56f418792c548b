package jubjub

import (
	"causeway/api"
	"causeway/field"
)

// below: are all elements below r?
func below(l ...api.Fe) bool {
	for _, a := range l {
		if field.Check(api.FieldR, a) != api.OK {
			return false
		}
	}
	return true
}

// What is reckoned with is below r, so that from here on no call of field's has anything to refuse.

// plus answers the sum.
func plus(a api.Fe, b api.Fe) api.Fe {
	sum, _ := field.Add(api.FieldR, a, b)
	return sum
}

// minus answers the difference.
func minus(a api.Fe, b api.Fe) api.Fe {
	difference, _ := field.Sub(api.FieldR, a, b)
	return difference
}

// negative answers the negative.
func negative(a api.Fe) api.Fe { return minus(api.Fe{}, a) }

// times answers the product.
func times(a api.Fe, b api.Fe) api.Fe {
	product, _ := field.Mul(api.FieldR, a, b)
	return product
}

// squared answers a times itself.
func squared(a api.Fe) api.Fe { return times(a, a) }

// over answers a times the inverse of b, which is not 0.
func over(a api.Fe, b api.Fe) api.Fe {
	quotient, _ := field.Div(api.FieldR, a, b)
	return quotient
}

// isLower: is a, as a number, not above (r - 1) / 2?
func isLower(a api.Fe) bool {
	lower, _ := field.Lower(api.FieldR, a)
	return lower
}
