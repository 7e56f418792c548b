package poly_test

import (
	"testing"

	"causeway/api"
	"causeway/poly"
)

// asked is a call of so many lists and so many other elements: is there nothing beside its error, and the error.
type asked struct {
	name          string
	lists, others int
	of            func(l [][]api.Fe, x []api.Fe) (bool, api.Errno)
}

func calls() []asked {
	polynomial := func(a []api.Fe, e api.Errno) (bool, api.Errno) { return a == nil, e }
	element := func(a api.Fe, e api.Errno) (bool, api.Errno) { return a == api.Fe{}, e }
	return []asked{
		{"Trim", 1, 0, func(l [][]api.Fe, x []api.Fe) (bool, api.Errno) { return polynomial(poly.Trim(l[0])) }},
		{"Add", 2, 0, func(l [][]api.Fe, x []api.Fe) (bool, api.Errno) { return polynomial(poly.Add(l[0], l[1])) }},
		{"Sub", 2, 0, func(l [][]api.Fe, x []api.Fe) (bool, api.Errno) { return polynomial(poly.Sub(l[0], l[1])) }},
		{"Mul", 2, 0, func(l [][]api.Fe, x []api.Fe) (bool, api.Errno) { return polynomial(poly.Mul(l[0], l[1])) }},
		{"Scale", 1, 1, func(l [][]api.Fe, x []api.Fe) (bool, api.Errno) { return polynomial(poly.Scale(l[0], x[0])) }},
		{"Eval", 1, 1, func(l [][]api.Fe, x []api.Fe) (bool, api.Errno) { return element(poly.Eval(l[0], x[0])) }},
		{"Values", 1, 1, func(l [][]api.Fe, x []api.Fe) (bool, api.Errno) { return polynomial(poly.Values(l[0], 2, x[0])) }},
		{"Coeffs", 1, 1, func(l [][]api.Fe, x []api.Fe) (bool, api.Errno) { return polynomial(poly.Coeffs(l[0], 2, x[0])) }},
		{"Linear", 1, 1, func(l [][]api.Fe, x []api.Fe) (bool, api.Errno) {
			quotient, rest, e := poly.Linear(l[0], x[0])
			return quotient == nil && rest == api.Fe{}, e
		}},
		{"Vanish", 1, 0, func(l [][]api.Fe, x []api.Fe) (bool, api.Errno) {
			quotient, rest, e := poly.Vanish(l[0], 2)
			return quotient == nil && rest == nil, e
		}},
		{"Lagrange", 0, 1, func(l [][]api.Fe, x []api.Fe) (bool, api.Errno) { return element(poly.Lagrange(2, 1, x[0])) }},
	}
}

// mustRefuse tells whether the call refuses what is handed in so, and answers nothing beside it.
func (c asked) mustRefuse(t *testing.T, l [][]api.Fe, x []api.Fe, wrong api.Errno) {
	t.Helper()
	if nothing, e := c.of(l, x); !nothing || e != wrong {
		t.Error(c.name, len(l), x, nothing, e, wrong)
	}
}

// good are so many lists that every call takes, and other elements.
func (c asked) good() ([][]api.Fe, []api.Fe) {
	l := [][]api.Fe{list(1, 2, 3, 4), list(4, 3, 2, 1)}
	return l[:c.lists], list(9)[:c.others]
}

// TestTooLong: P7.1, ErrDegree of each list, also of zeros alone, ahead of the elements of all lists, those ahead of it too, and of the others.
func TestTooLong(t *testing.T) {
	long := make([]api.Fe, api.MaxDegree+1)
	bad := append(make([]api.Fe, api.MaxDegree), above()[0])
	for _, c := range calls() {
		for i := range c.lists {
			for _, with := range [][]api.Fe{long, bad, append(bad, bad...)} {
				l, x := c.good()
				l[i] = with
				c.mustRefuse(t, l, x, api.ErrDegree)
				for j := range x {
					x[j] = above()[0]
				}
				c.mustRefuse(t, l, x, api.ErrDegree)
				for j := range l {
					if j != i {
						l[j] = above()
					}
				}
				c.mustRefuse(t, l, x, api.ErrDegree)
				for j := range l {
					l[j] = bad
				}
				c.mustRefuse(t, l, x, api.ErrDegree)
			}
		}
	}
}

// TestElements: P7.1, ErrElement of each place of each list, and of each other element.
func TestElements(t *testing.T) {
	for _, c := range calls() {
		for _, bad := range above() {
			for i := range c.lists {
				for place := range 4 {
					l, x := c.good()
					l[i][place] = bad
					c.mustRefuse(t, l, x, api.ErrElement)
				}
			}
			for i := range c.others {
				l, x := c.good()
				x[i] = bad
				c.mustRefuse(t, l, x, api.ErrElement)
				if c.lists > 0 {
					l[0] = nil
					c.mustRefuse(t, l, x, api.ErrElement)
				}
			}
		}
		l, x := c.good()
		for i := range l {
			l[i] = list(-1, -1, -1, -1) // the highest elements that there are
		}
		if _, e := c.of(l, x); e != api.OK {
			t.Error(c.name, "of the highest elements", e)
		}
	}
}

// TestLengthsAhead: P7.1 with P4, of two lists the length of either goes ahead of the elements of either, and these ahead of the product's degree.
func TestLengthsAhead(t *testing.T) {
	most, long := make([]api.Fe, api.MaxDegree), make([]api.Fe, api.MaxDegree+1)
	for _, c := range calls() {
		if c.lists < 2 {
			continue
		}
		for _, bad := range above() {
			l := []api.Fe{bad}
			c.mustRefuse(t, [][]api.Fe{l, long}, nil, api.ErrDegree)
			c.mustRefuse(t, [][]api.Fe{long, l}, nil, api.ErrDegree)
			c.mustRefuse(t, [][]api.Fe{l, most}, nil, api.ErrElement)
			c.mustRefuse(t, [][]api.Fe{most, l}, nil, api.ErrElement)
		}
		c.mustRefuse(t, [][]api.Fe{nil, long}, nil, api.ErrDegree)
		c.mustRefuse(t, [][]api.Fe{long, nil}, nil, api.ErrDegree)
		c.mustRefuse(t, [][]api.Fe{nil, above()}, nil, api.ErrElement)
		c.mustRefuse(t, [][]api.Fe{above(), nil}, nil, api.ErrElement)
	}
	last := monomial(api.MaxDegree - 1)
	for _, l := range [][][]api.Fe{{last, above()}, {above(), last}} {
		if got, e := poly.Mul(l[0], l[1]); got != nil || e != api.ErrElement {
			t.Error("Mul", got, e)
		}
	}
}
