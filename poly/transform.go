package poly

import (
	"math/bits"

	"causeway/api"
	"causeway/field"
)

// Values answers a's values over the coset by shift, in the domain's order; ErrDomain if there is no such domain, or its log is above 16, ErrZero of a shift 0, ErrDegree if a has a degree of 2^log or above.
func Values(a []api.Fe, log int, shift api.Fe) ([]api.Fe, api.Errno) {
	if e := checkedCoset(a, log, shift); e != api.OK {
		return nil, e
	}
	a = a[:length(a)]
	if len(a) > 1<<log {
		return nil, api.ErrDegree
	}
	return transformed(weighted(a, one(), shift), log, root(log)), api.OK
}

// Coeffs answers the polynomial of a degree below 2^log that has these values there; Values' errors, but ErrCount if there are not 2^log.
func Coeffs(values []api.Fe, log int, shift api.Fe) ([]api.Fe, api.Errno) {
	if e := checkedCoset(values, log, shift); e != api.OK {
		return nil, e
	}
	if len(values) != 1<<log {
		return nil, api.ErrCount
	}
	return trimmed(weighted(summed(values, log), share(log), inverse(shift))), api.OK
}

// checkedCoset answers the error of the list or the shift, then the coset's.
func checkedCoset(l []api.Fe, log int, shift api.Fe) api.Errno {
	if e := checked(l, []api.Fe{shift}); e != api.OK {
		return e
	}
	if !isDomain(log, mostValues) {
		return api.ErrDomain
	}
	if shift == (api.Fe{}) {
		return api.ErrZero
	}
	return api.OK
}

// summed answers, times 2^log, the coefficients of the polynomial that has these 2^log values over the domain.
func summed(values []api.Fe, log int) []api.Fe { return transformed(values, log, inverse(root(log))) }

// share answers one 2^log-th.
func share(log int) api.Fe { return inverse(field.Of(1 << log)) }

// transformed answers the values at the powers of turn, from the 0th on, of the polynomial of these coefficients, 2^log or fewer; turn has the order 2^log.
func transformed(a []api.Fe, log int, turn api.Fe) []api.Fe {
	size := 1 << log
	// With the bits of their places turned round, the coefficients at even places stand ahead of those at odd ones, in each block anew.
	l := byPlace(size, func(i int) api.Fe { return at(a, int(bits.Reverse32(uint32(i))>>(32-log))) })
	turns := powers(one(), turn, size/2)
	for half := 1; half < size; half *= 2 {
		for from := 0; from < size; from += 2 * half {
			cross(l[from:from+half], l[from+half:from+2*half], turns, size/2/half)
		}
	}
	return l
}

// cross makes of the values of two polynomials over half a domain, low and high, those over the whole one of low(X^2) + X high(X^2), in their place. The powers of the whole one's root stand in turns, one a step.
func cross(low []api.Fe, high []api.Fe, turns []api.Fe, step int) {
	for i := range low {
		turned := times(high[i], turns[i*step])
		low[i], high[i] = plus(low[i], turned), minus(low[i], turned)
	}
}
