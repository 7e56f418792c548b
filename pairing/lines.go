package pairing

import (
	"causeway/api"
	"causeway/field"
	"causeway/tower"
)

// line is what a line comes to at a point of G1: what stands before 1, w and w^3; all else is 0. It comes times an element of Fp2, which the last power makes one.
//
// Through a point (x, y) of the twist, with the slope m there, and at (a, b) that is b, -m a and m x - y: over Fp12 the point is (x w^2, y w^3), and the slope m w.
type line [3]api.E2

// powers is an element of Fp12: what stands before 1, w and on to w^5.
type powers [6]api.E2

// inPowers answers the element so; out leads back.
func inPowers(a api.E12) powers {
	return powers{a.A.A, a.B.A, a.A.B, a.B.B, a.A.C, a.B.C}
}

// out answers the element in api's form.
func (f powers) out() api.E12 {
	return api.E12{A: api.E6{A: f[0], B: f[2], C: f[4]}, B: api.E6{A: f[1], B: f[3], C: f[5]}}
}

// through answers the line at p times a factor, by which the slope m and the height m x - y come already.
func through(p api.G1, factor api.E2, slope api.E2, height api.E2) line {
	less, _ := field.Neg(api.FieldP, p.X)
	return line{scaled(factor, p.Y), scaled(slope, less), height}
}

// scaled answers a times an element of Fp.
func scaled(a api.E2, by api.Fe) api.E2 {
	a.A, _ = field.Mul(api.FieldP, a.A, by)
	a.B, _ = field.Mul(api.FieldP, a.B, by)
	return a
}

// times answers f times the line.
func (f powers) times(l line) powers {
	// As w^6 is 9 + u, what stands before w^3, w^4 and w^5 stands, times that, before w^-3, w^-2 and w^-1 too: so each place has the three below it.
	wide := [9]api.E2{tower.Xi2(f[3]), tower.Xi2(f[4]), tower.Xi2(f[5]), f[0], f[1], f[2], f[3], f[4], f[5]}
	straight, crossed := l.rows()
	for k := range f {
		from := [3]api.E2{wide[k+3], wide[k+2], wide[k]}
		var parts [6]api.Fe
		for i, c := range from {
			parts[2*i], parts[2*i+1] = c.A, c.B
		}
		f[k].A, _ = field.Dot(api.FieldP, straight[:], parts[:])
		f[k].B, _ = field.Dot(api.FieldP, crossed[:], parts[:])
	}
	return f
}

// rows answers the factors of three elements' parts, A and B in turn, by which these sum up to the A, and to the B, of the elements' products with the line's. Two long sums take less time than six products in Fp2.
func (l line) rows() (straight [6]api.Fe, crossed [6]api.Fe) {
	for i, c := range l {
		less, _ := field.Neg(api.FieldP, c.B)
		straight[2*i], straight[2*i+1] = c.A, less
		crossed[2*i], crossed[2*i+1] = c.B, c.A
	}
	return straight, crossed
}
