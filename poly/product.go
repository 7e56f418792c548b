package poly

import (
	"math/bits"

	"causeway/api"
	"causeway/field"
)

// short is so few coefficients that sums of products take less time than transforms.
const short = 64

// product answers the product of two polynomials that are trimmed and not 0, of a degree below MaxDegree.
func product(a []api.Fe, b []api.Fe) []api.Fe {
	if min(len(a), len(b)) <= short {
		return bySums(a, b)
	}
	return byValues(a, b)
}

// bySums answers the product, each coefficient as a sum of products: of some of a's, and as many of b's turned round.
func bySums(a []api.Fe, b []api.Fe) []api.Fe {
	last := len(b) - 1
	turned := byPlace(len(b), func(i int) api.Fe { return b[last-i] })
	return byPlace(len(a)+last, func(i int) api.Fe {
		from, end := max(i-last, 0), min(i+1, len(a))
		sum, _ := field.Dot(api.FieldR, a[from:end], turned[last-i+from:last-i+end])
		return sum
	})
}

// byValues answers the product by its values over the least domain that has more places than its degree.
func byValues(a []api.Fe, b []api.Fe) []api.Fe {
	log := bits.Len(uint(len(a) + len(b) - 2))
	ofA, ofB := transformed(a, log, root(log)), transformed(b, log, root(log))
	values := byPlace(1<<log, func(i int) api.Fe { return times(ofA[i], ofB[i]) })
	return trimmed(weighted(summed(values, log), share(log), one()))
}
