package poseidon

import (
	"causeway/api"
	"causeway/field"
)

// below: are all elements below r?
func below(l ...api.Fe) bool {
	for _, a := range l {
		if field.Check(api.FieldR, a) != api.OK {
			return false
		}
	}
	return true
}

// What is reckoned with was checked first of all, so that from there on no call of field's has anything to refuse.

// count answers how many elements there are, as an element.
func count(l []api.Fe) api.Fe { return field.Of(uint64(len(l))) }

// plus answers the sum.
func plus(a api.Fe, b api.Fe) api.Fe {
	sum, _ := field.Add(api.FieldR, a, b)
	return sum
}

// times answers the product.
func times(a api.Fe, b api.Fe) api.Fe {
	product, _ := field.Mul(api.FieldR, a, b)
	return product
}

// fifth answers the fifth power.
func fifth(a api.Fe) api.Fe {
	square := times(a, a)
	return times(times(square, square), a)
}

// dot answers the sum of the products, place by place, of lists of one length.
func dot(a []api.Fe, b []api.Fe) api.Fe {
	sum, _ := field.Dot(api.FieldR, a, b)
	return sum
}

// inversesOf answers the inverses of t, t + 1 .. 3 t - 2, all that the matrix of the width t has.
func inversesOf(width int) []api.Fe {
	l := make([]api.Fe, 2*width-1)
	for i := range l {
		l[i] = field.Of(uint64(width + i))
	}
	l, _ = field.Invs(api.FieldR, l)
	return l
}
