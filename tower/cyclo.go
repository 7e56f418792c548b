package tower

import "causeway/api"

// four is an element of Fp4 = Fp2[s], s^2 = 9 + u: what stands before 1 and s. With w^3 as s an element of Fp12 is X + Y w + Z w^2 over Fp4.
type four [2]two

// InCyclo: is a in the cyclotomic subgroup?
func InCyclo(a api.E12) bool {
	_, in := rest12(a).cyclo()
	return in
}

// Cyclo12 answers a's square; ErrGroup if it is not in the cyclotomic subgroup.
func Cyclo12(a api.E12) (api.E12, api.Errno) {
	square, in := rest12(a).cyclo()
	if !in {
		return api.E12{}, api.ErrGroup
	}
	return square.out(), api.OK
}

// cyclo answers the square of an element of the cyclotomic subgroup; false of another one.
//
// It is enough that a is not 0 and that a^(p^4) a is a^(p^2): then a to the p^4 - p^2 + 1 is one, and that divides p^6 + 1. As w to the p^2 is w times a sixth root of one, this falls into three equations over Fp4: X^2 - s Y Z is X's conjugate, X Y - s Z^2 is Y's, Y^2 - X Z is Z's. By them, after Granger and Scott, the mixed products of the square are made of what is there already.
func (a twelve) cyclo() (twelve, bool) {
	x, y, z := a.fours()
	xx, yy, zz := x.times(x), y.times(y), z.times(z).s()
	in := xx.minus(y.times(z).s()) == x.conj() && x.times(y).minus(zz) == y.conj() && yy.minus(x.times(z)) == z.conj()
	if !in || a == (twelve{}) {
		return twelve{}, false
	}
	return joined(xx.thrice(x.conj()), zz.thrice(four{}.minus(y.conj())), yy.thrice(z.conj())), true
}

// fours answers X, Y and Z.
func (a twelve) fours() (four, four, four) {
	return four{a[0][0], a[1][1]}, four{a[1][0], a[0][2]}, four{a[0][1], a[1][2]}
}

// joined answers X + Y w + Z w^2.
func joined(x four, y four, z four) twelve {
	return twelve{{x[0], z[0], y[1]}, {y[0], x[1], z[1]}}
}

// minus answers the difference.
func (a four) minus(b four) four { return four{a[0].minus(b[0]), a[1].minus(b[1])} }

// times answers the product.
func (a four) times(b four) four {
	return four{sum2(a[:], []two{b[0], b[1].xi()}), sum2(a[:], []two{b[1], b[0]})}
}

// conj answers the conjugate over Fp2, which is a to the p^2.
func (a four) conj() four { return four{a[0], two{}.minus(a[1])} }

// s answers a times s.
func (a four) s() four { return four{a[1].xi(), a[0]} }

// thrice answers three times a less two times b.
func (a four) thrice(b four) four {
	for i := range a {
		less := a[i].minus(b[i])
		a[i] = less.plus(less).plus(a[i])
	}
	return a
}
