package poly

import (
	"causeway/api"
	"causeway/field"
)

// checked answers ErrDegree if one of the lists has more than MaxDegree elements; else ErrElement if an element of one is not below r. An element that stands alone is handed in as a list of one.
//
// All lengths go ahead of all elements: a list that is too long is told also behind one with an element that may not be.
func checked(lists ...[]api.Fe) api.Errno {
	for _, l := range lists {
		if len(l) > api.MaxDegree {
			return api.ErrDegree
		}
	}
	for _, l := range lists {
		if !allBelow(l) {
			return api.ErrElement
		}
	}
	return api.OK
}

// allBelow: are all elements below r?
func allBelow(l []api.Fe) bool {
	for _, a := range l {
		if field.Check(api.FieldR, a) != api.OK {
			return false
		}
	}
	return true
}

// byPlace answers a list of so many elements: what of answers of each place, asked from the first one on.
func byPlace(count int, of func(place int) api.Fe) []api.Fe {
	l := make([]api.Fe, count)
	for i := range l {
		l[i] = of(i)
	}
	return l
}

// at answers the element at a place, 0 behind the last one.
func at(l []api.Fe, place int) api.Fe {
	if place < len(l) {
		return l[place]
	}
	return api.Fe{}
}

// length answers how many elements there are without the zeros behind.
func length(l []api.Fe) int {
	n := len(l)
	for n > 0 && l[n-1] == (api.Fe{}) {
		n--
	}
	return n
}

// trimmed answers the list without the zeros behind, in memory of its own.
func trimmed(l []api.Fe) []api.Fe {
	return byPlace(length(l), func(i int) api.Fe { return l[i] })
}

// powers answers so many elements, the first one and each next one by times the one ahead.
func powers(first api.Fe, by api.Fe, count int) []api.Fe {
	next := first
	return byPlace(count, func(int) api.Fe {
		power := next
		next = times(next, by)
		return power
	})
}

// weighted answers the elements, the first one times first, and each next one times what has by once more.
func weighted(l []api.Fe, first api.Fe, by api.Fe) []api.Fe {
	weights := powers(first, by, len(l))
	return byPlace(len(l), func(i int) api.Fe { return times(l[i], weights[i]) })
}
