package pairing

import (
	"causeway/api"
	"causeway/tower"
)

// last answers a to the (p^12 - 1) / r, of an a that is not 0: to the p^6 - 1, to the p^2 + 1, and to what is left.
func last(a api.E12) api.E12 {
	inverse, _ := tower.Inv12(a)
	a = tower.Mul12(tower.Conj12(a), inverse)
	a = tower.Mul12(tower.Frob12(a, 2), a)
	return hard(a)
}

// hard answers a to the (p^4 - p^2 + 1) / r; a is in the cyclotomic subgroup, as is all that follows.
//
// With g for 36x^3 + 18x^2 + 12x that is p^3 + (1 + 6x^2) p^2 + (1 - g) p - (g + 12x^2 + 6x + 2), after Scott and others.
func hard(a api.E12) api.E12 {
	six := raised(a, sixSeeds())
	sixSquared := raised(six, seedWord())
	cubed := raised(sixSquared, sixSeeds()) // to the 36x^3
	twelveSquared := square(sixSquared)
	g := product(cubed, sixSquared, twelveSquared, square(six))
	rest := product(g, twelveSquared, six, square(a))
	return product(
		tower.Frob12(a, 3),
		tower.Frob12(product(a, sixSquared), 2),
		tower.Frob12(product(a, tower.Conj12(g)), 1),
		tower.Conj12(rest),
	)
}

// product answers the product of all.
func product(first api.E12, others ...api.E12) api.E12 {
	for _, a := range others {
		first = tower.Mul12(first, a)
	}
	return first
}

// square answers the square of an element of the cyclotomic subgroup.
func square(a api.E12) api.E12 {
	a, _ = tower.Cyclo12(a)
	return a
}

// squares answers a function that squares a so many times more at each call, and answers what it is then. a is in the cyclotomic subgroup.
func squares(a api.E12) func(times int) api.E12 {
	return func(times int) api.E12 {
		for range times {
			a = square(a)
		}
		return a
	}
}

// raised answers a, of the cyclotomic subgroup, to the n, which has 65 bits or fewer. A digit of -1 costs no inverse, for there the conjugate is that.
func raised(a api.E12, n api.Word) api.E12 {
	next := squares(a)
	result := tower.One12()
	taken := 0 // the place up to which a was squared
	for place, digit := range signed(n) {
		if digit == 0 {
			continue
		}
		power := next(place - taken)
		taken = place
		if digit < 0 {
			power = tower.Conj12(power)
		}
		result = tower.Mul12(result, power)
	}
	return result
}
