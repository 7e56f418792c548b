package field

import (
	"causeway/api"
	"causeway/limbs"
)

// Inv answers the inverse; ErrZero of 0.
func Inv(f api.Field, a api.Fe) (api.Fe, api.Errno) {
	return Div(f, Of(1), a)
}

// Div answers a times the inverse of b; ErrZero if b is 0.
func Div(f api.Field, a api.Fe, b api.Fe) (api.Fe, api.Errno) {
	c, e := constantsOf(f)
	if e != api.OK || !c.has(a) || !c.has(b) {
		return api.Fe{}, refusal(e)
	}
	if b == (api.Fe{}) {
		return api.Fe{}, api.ErrZero
	}
	// One factor is kept, the other is plain: so is their product.
	return api.Fe(c.times(c.inverted(c.into(b)), kept(a))), api.OK
}

// Exp answers a to the n; to the 0 it is 1, of 0 too.
func Exp(f api.Field, a api.Fe, n api.Word) (api.Fe, api.Errno) {
	c, e := constantsOf(f)
	if e != api.OK || !c.has(a) {
		return api.Fe{}, refusal(e)
	}
	return c.out(c.power(c.into(a), n)), api.OK
}

// Legendre answers 0 of 0, 1 of another square, -1 of what is none.
func Legendre(f api.Field, a api.Fe) (int, api.Errno) {
	c, e := constantsOf(f)
	if e != api.OK || !c.has(a) {
		return 0, refusal(e)
	}
	// By Euler: to the half of the modulus less 1, whose lowest bit, a 1, the shift drops.
	power := c.power(c.into(a), limbs.Shr(c.modulus, 1))
	if power == (kept{}) {
		return 0, api.OK
	}
	if power == c.one() {
		return 1, api.OK
	}
	return -1, api.OK
}

// Sqrt answers the lower of the two roots, as a number; ErrSquare if there is none.
func Sqrt(f api.Field, a api.Fe) (api.Fe, api.Errno) {
	c, e := constantsOf(f)
	if e != api.OK || !c.has(a) {
		return api.Fe{}, refusal(e)
	}
	if a == (api.Fe{}) {
		return api.Fe{}, api.OK
	}
	twos, cycle := cycleOf(f)
	found, ok := c.root(c.into(a), twos, c.into(cycle))
	if !ok {
		return api.Fe{}, api.ErrSquare
	}
	root := c.out(found)
	if !c.isLower(root) {
		root = c.minus(api.Fe{}, root)
	}
	return root, api.OK
}

// root answers a root of a, which is not 0, by Tonelli and Shanks; false if there is none. The modulus less 1 is 2^twos times an odd number; cycle has the order 2^twos.
func (c *constants) root(a kept, twos int, cycle kept) (kept, bool) {
	// The odd number's half, rounded down: the modulus's own bits above its lowest ones.
	part := c.power(a, limbs.Shr(c.modulus, twos+1))
	root := c.times(a, part)
	// All along root squared is a times rest, and rest's order a power of 2 that falls until rest is 1.
	rest := c.times(root, part)
	for {
		order := c.logOrder(rest, twos)
		if order == 0 {
			return root, true
		}
		// Only at first, as from then on cycle's order is that which rest had.
		if order == twos {
			return kept{}, false
		}
		for range twos - order - 1 {
			cycle = c.times(cycle, cycle)
		}
		root = c.times(root, cycle)
		cycle = c.times(cycle, cycle)
		rest = c.times(rest, cycle)
		twos = order
	}
}

// logOrder answers how often a must be squared till it is 1, but no more than most.
func (c *constants) logOrder(a kept, most int) int {
	one := c.one()
	for i := range most {
		if a == one {
			return i
		}
		a = c.times(a, a)
	}
	return most
}
