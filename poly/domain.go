package poly

import (
	"causeway/api"
	"causeway/field"
	"causeway/limbs"
)

// mostValues is the log of the greatest domain of which all values are told.
const mostValues = 16

// generator is no square, so that of its powers those that root takes have the whole order.
const generator = 5

// isDomain: is there a domain of that log, the log at most most?
func isDomain(log int, most int) bool { return 0 <= log && log <= most }

// Root answers the root of the domain of 2^log; ErrDomain if there is none.
func Root(log int) (api.Fe, api.Errno) {
	if !isDomain(log, api.MaxLog) {
		return api.Fe{}, api.ErrDomain
	}
	return root(log), api.OK
}

// root answers it of a domain that there is.
func root(log int) api.Fe {
	// 2 divides r - 1 often enough for all domains, so that the shift drops nothing.
	n, _ := limbs.Sub(field.Modulus(api.FieldR), api.Word{1})
	power, _ := field.Exp(api.FieldR, field.Of(generator), limbs.Shr(n, log))
	return power
}

// Lagrange answers the value at x of the polynomial, of the least degree, that is 1 at the domain's place i and 0 at the others; ErrDomain if there is no such domain, ErrArg if there is no such place.
func Lagrange(log int, i int, x api.Fe) (api.Fe, api.Errno) {
	if e := checked([]api.Fe{x}); e != api.OK {
		return api.Fe{}, e
	}
	if !isDomain(log, api.MaxLog) {
		return api.Fe{}, api.ErrDomain
	}
	size := 1 << log
	if i < 0 || i >= size {
		return api.Fe{}, api.ErrArg
	}
	place := raised(root(log), i)
	if x == place {
		return one(), api.OK
	}
	// The vanishing polynomial without its factor of the place, divided by its value there: that is size / place.
	above := times(place, minus(raised(x, size), one()))
	below := times(field.Of(uint64(size)), minus(x, place))
	return times(above, inverse(below)), api.OK
}
