package kzg

import (
	"causeway/api"
	"causeway/field"
)

// Claim is that what C commits to has Value at At; W commits to the quotient.
type Claim struct {
	C     api.G1
	At    api.Fe
	Value api.Fe
	W     api.G1
}

// Verify answers ErrCheck of a claim that does not hold; ahead of that Check's error, C's, ErrElement of At or Value, W's error.
func Verify(s SRS, c Claim) api.Errno {
	return VerifyAll(s, []Claim{c}, api.Fe{})
}

// VerifyAll answers ErrCheck if the claims do not hold together, the i-th to the by^i; ahead of that Check's error, ErrCount of none or more than 64, the error of the first claim that may not be, ErrElement of by.
func VerifyAll(s SRS, l []Claim, by api.Fe) api.Errno {
	if e := Check(s); e != api.OK {
		return e
	}
	if len(l) == 0 || len(l) > mostOpened {
		return api.ErrCount
	}
	for _, c := range l {
		if e := c.checked(); e != api.OK {
			return e
		}
	}
	if e := elements(by); e != api.OK {
		return e
	}
	return held(s, l, by)
}

// checked answers why the claim may not be, whether it holds or not.
func (c Claim) checked() api.Errno {
	if e := onCurve(c.C); e != api.OK {
		return e
	}
	if e := elements(c.At, c.Value); e != api.OK {
		return e
	}
	return onCurve(c.W)
}

// VerifyMany answers ErrCheck if, at one place, the commitments' sum, the i-th times by^i, does not have the values' sum likewise; ahead of that Check's error, ErrCount of none or more than 64 commitments or of not as many values, the first commitment's error, ErrElement of at, a value or by, w's error.
func VerifyMany(s SRS, c []api.G1, at api.Fe, values []api.Fe, by api.Fe, w api.G1) api.Errno {
	if e := Check(s); e != api.OK {
		return e
	}
	if len(c) == 0 || len(c) > mostOpened || len(values) != len(c) {
		return api.ErrCount
	}
	if e := onCurve(c...); e != api.OK {
		return e
	}
	if e := elements(at, by); e != api.OK {
		return e
	}
	if e := elements(values...); e != api.OK {
		return e
	}
	if e := onCurve(w); e != api.OK {
		return e
	}
	weights := powers(by, len(c))
	value, _ := field.Dot(api.FieldR, weights, values)
	return held(s, []Claim{{multi(c, weights), at, value, w}}, api.Fe{})
}

// held answers ErrCheck if the product of the claims' quotients e(C - Value G[0], One) / e(W, X - At One), the i-th to the by^i, is not one. The claims and s may be.
//
// As e(W, X - At One) is e(W, X) / e(At W, One), all of them are one pairing with One and one with X.
func held(s SRS, l []Claim, by api.Fe) api.Errno {
	var withOne, withX terms
	weights := powers(by, len(l))
	for i, c := range l {
		withOne.add(c.C, weights[i])
		withOne.add(s.G[0], negative(times(weights[i], c.Value)))
		withOne.add(c.W, times(weights[i], c.At))
		withX.add(c.W, weights[i])
	}
	if !matches(s, withOne.sum(), withX.sum()) {
		return api.ErrCheck
	}
	return api.OK
}
