package tower

import (
	"causeway/api"
	"causeway/field"
)

// Sqrt2 answers a root; ErrSquare if there is none. Of the two it is the one whose B is lower as a number or, if both B are 0, whose A is.
func Sqrt2(a api.E2) (api.E2, api.Errno) {
	b := rest2(a)
	if b.B == (api.Fe{}) {
		return rootOfPart(b.A), api.OK
	}
	root, e := b.root()
	return api.E2(root), e
}

// rootOfPart answers the root of an element of Fp: of it or, for -1 is no square there, of its negative there is one in Fp.
func rootOfPart(a api.Fe) api.E2 {
	root, e := field.Sqrt(api.FieldP, a)
	if e == api.OK {
		return api.E2{A: root}
	}
	root, _ = field.Sqrt(api.FieldP, negative(a))
	return api.E2{B: root}
}

// root answers the root of what is not in Fp. If that is x + y u, then x^2 + y^2 is a root of the norm and x^2 - y^2 is A: so x^2 is half of A and the norm's root, or, if that is none, of A less it; just one of the two is a square, for their product is -(B/2)^2.
func (a two) root() (two, api.Errno) {
	norm, e := field.Sqrt(api.FieldP, a.norm())
	if e != api.OK {
		return two{}, e
	}
	half, _ := field.Inv(api.FieldP, field.Of(2))
	x, e := field.Sqrt(api.FieldP, times(plus(a.A, norm), half))
	if e != api.OK {
		x, _ = field.Sqrt(api.FieldP, times(minus(a.A, norm), half))
	}
	y, _ := field.Div(api.FieldP, times(a.B, half), x)
	root := two{A: x, B: y}
	if lower, _ := field.Lower(api.FieldP, y); !lower {
		root = two{}.minus(root)
	}
	return root, api.OK
}
