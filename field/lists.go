package field

import "causeway/api"

const mostElements = 65536

// Invs answers of each element its inverse, and 0 of 0; ErrCount of more than 65536.
func Invs(f api.Field, l []api.Fe) ([]api.Fe, api.Errno) {
	c, e := constantsOf(f)
	if e != api.OK {
		return nil, e
	}
	if len(l) > mostElements {
		return nil, api.ErrCount
	}
	if !c.hasAll(l) {
		return nil, api.ErrElement
	}
	return c.inverses(l), api.OK
}

// Dot answers the sum of the products, place by place; ErrCount if there are not as many, or more than 65536.
func Dot(f api.Field, a []api.Fe, b []api.Fe) (api.Fe, api.Errno) {
	c, e := constantsOf(f)
	if e != api.OK {
		return api.Fe{}, e
	}
	if len(a) != len(b) || len(a) > mostElements {
		return api.Fe{}, api.ErrCount
	}
	if !c.hasAll(a) || !c.hasAll(b) {
		return api.Fe{}, api.ErrElement
	}
	var sum api.Fe
	for i := range a {
		sum = c.plus(sum, api.Fe(c.times(kept(a[i]), kept(b[i]))))
	}
	// Each product of two plain elements came out divided by 2^256: what brings an element into Montgomery's form brings their sum back, once for all.
	return api.Fe(c.into(sum)), api.OK
}

// hasAll: are all of them below the modulus?
func (c *constants) hasAll(l []api.Fe) bool {
	for _, a := range l {
		if !c.has(a) {
			return false
		}
	}
	return true
}

// inverses answers of each element its inverse, and 0 of 0: one inverse, that of all their product, is taken apart.
func (c *constants) inverses(l []api.Fe) []api.Fe {
	ahead := make([]kept, len(l)) // the products of what stands ahead of each
	product := c.one()
	for i, a := range l {
		ahead[i] = product
		if a != (api.Fe{}) {
			product = c.times(product, c.into(a))
		}
	}
	out := make([]api.Fe, len(l))
	inverse := c.inverted(product)
	for i := len(l) - 1; i >= 0; i-- {
		if l[i] == (api.Fe{}) {
			continue
		}
		out[i] = c.out(c.times(inverse, ahead[i]))
		inverse = c.times(inverse, c.into(l[i]))
	}
	return out
}
