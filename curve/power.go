package curve

import (
	"causeway/api"
	"causeway/field"
	"causeway/limbs"
	"causeway/tower"
)

// Psi2 answers the p-power map, carried over to the twist.
func Psi2(p api.G2) (api.G2, api.Errno) {
	if e := On2(p); e != api.OK {
		return api.G2{}, e
	}
	third, half := turns()
	// Infinity's X and Y stay 0.
	p.X = tower.Mul2(tower.Conj2(p.X), third)
	p.Y = tower.Mul2(tower.Conj2(p.Y), half)
	return p, api.OK
}

// turns answers 9 + u to the (p - 1) / 3, and to the (p - 1) / 2.
func turns() (api.E2, api.E2) {
	third := api.E2{
		A: api.Fe{0x99e39557176f553d, 0xb78cc310c2c3330c, 0x4c0bec3cf559b143, 0x2fb347984f7911f7},
		B: api.Fe{0x1665d51c640fcba2, 0x32ae2a1d0b7c9dce, 0x4ba4cc8bd75a0794, 0x16c9e55061ebae20},
	}
	half := api.E2{
		A: api.Fe{0xdc54014671a0135a, 0xdbaae0eda9c95998, 0xdc5ec698b6e2f9b9, 0x063cf305489af5dc},
		B: api.Fe{0x82d37f632623b0e3, 0x21807dc98fa25bd2, 0x0704b5a7ec796f2b, 0x07c03cbcac41049a},
	}
	return third, half
}

// In2: is p on the twist, and in G2?
//
// It is enough that Psi2 is Mul by t - 1, which has half of r's bits. In G2 it is, for there it is Mul by p, and p is t - 1 and r. And where it is, r times p is infinity: Psi2 solves X^2 - t X + p on the whole twist, and at t - 1 that is p + 1 - t, which is r.
func In2(p api.G2) bool {
	turned, e := Psi2(p)
	if e != api.OK {
		return false
	}
	less, _ := limbs.Sub(field.Modulus(api.FieldP), Order()) // p - r is t - 1
	multiple, _ := Mul2(p, less)
	return multiple == turned
}
