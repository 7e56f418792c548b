package poly

import "causeway/api"

// Linear answers the quotient of a by X - x, and the rest.
func Linear(a []api.Fe, x api.Fe) ([]api.Fe, api.Fe, api.Errno) {
	if e := checked(a, []api.Fe{x}); e != api.OK {
		return nil, api.Fe{}, e
	}
	quotient, rest := divided(a, 1, x)
	return quotient, at(rest, 0), api.OK
}

// Vanish answers the quotient of a by the vanishing polynomial of the domain of 2^log, and the rest; ErrDomain if there is no such domain, or its log is above 16.
func Vanish(a []api.Fe, log int) ([]api.Fe, []api.Fe, api.Errno) {
	if e := checked(a); e != api.OK {
		return nil, nil, e
	}
	if !isDomain(log, mostValues) {
		return nil, nil, api.ErrDomain
	}
	quotient, rest := divided(a, 1<<log, one())
	return quotient, rest, api.OK
}

// divided answers the quotient of a by X^n - c, and the rest.
//
// Where to each coefficient, from the last one on, c times what has come to stand n places above it is added, there stands the rest, and from place n on the quotient.
func divided(a []api.Fe, n int, c api.Fe) ([]api.Fe, []api.Fe) {
	sums := trimmed(a)
	for i := len(sums) - n - 1; i >= 0; i-- {
		sums[i] = plus(sums[i], times(c, sums[i+n]))
	}
	low := min(n, len(sums))
	return trimmed(sums[low:]), trimmed(sums[:low])
}
