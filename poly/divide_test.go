package poly_test

import (
	"testing"

	"causeway/api"
	"causeway/poly"
)

// whatIsDivided are polynomials to be divided by one of the degree n.
func (s *source) whatIsDivided(n int) [][]api.Fe {
	l := append(s.some(), monomial(n), tailed(monomial(n), 3))
	for _, by := range []int{n - 1, n, n + 1, 2*n - 1, 2 * n, 2*n + 1, 3*n + 2} {
		l = append(l, s.full(by), tailed(s.full(by), 2), s.list(by))
	}
	return l
}

// TestLinear: P7.3 and P7.5, quotient times X - x and the rest are the polynomial; the rest is the value.
func TestLinear(t *testing.T) {
	s := source(31)
	for _, a := range s.whatIsDivided(1) {
		for _, x := range append(list(0, 1, -1, 7), s.wide()) {
			quotient, rest, e := poly.Linear(a, x)
			if e != api.OK || rest != value(a, x) || len(short(quotient)) != len(quotient) {
				t.Fatal("Linear", a, x, quotient, rest, e)
			}
			divisor := less(list(0, 1), []api.Fe{x})
			must(t, "the polynomial", sum(product(quotient, divisor), []api.Fe{rest}), e, short(a))
		}
	}
	// Of what X - x divides.
	for n := range 20 {
		a, x := s.full(n), s.wide()
		quotient, rest, e := poly.Linear(product(a, less(list(0, 1), []api.Fe{x})), x)
		must(t, "Linear of a multiple", quotient, e, a)
		if rest != whole(0) {
			t.Error("Linear's rest", n, x, rest)
		}
	}
	quotient, rest, e := poly.Linear(monomial(api.MaxDegree-1), whole(1))
	if e != api.OK || rest != whole(1) || len(quotient) != api.MaxDegree-1 {
		t.Fatal("Linear of the greatest degree", len(quotient), rest, e)
	}
	for i := range quotient {
		if quotient[i] != whole(1) {
			t.Fatal("Linear of a power", i, quotient[i])
		}
	}
}

// TestVanish: P7.3 and P7.5, quotient times X^n - 1 and the rest, whose degree is below n, are the polynomial.
func TestVanish(t *testing.T) {
	s := source(32)
	for log := range 6 {
		n := 1 << log
		divisor := less(monomial(n), list(1))
		for _, a := range s.whatIsDivided(n) {
			quotient, rest, e := poly.Vanish(a, log)
			if e != api.OK || len(rest) > n || len(short(quotient)) != len(quotient) || len(short(rest)) != len(rest) {
				t.Fatal("Vanish", log, a, quotient, rest, e)
			}
			must(t, "the polynomial", sum(product(quotient, divisor), rest), e, short(a))
			b := s.full(int(s.word() % 20))
			quotient, rest, e = poly.Vanish(product(b, divisor), log)
			must(t, "Vanish of a multiple", quotient, e, b)
			must(t, "its rest", rest, e, nil)
		}
	}
}

// TestVanishGreat: P7.3, up to the greatest domain, and of the greatest degree.
func TestVanishGreat(t *testing.T) {
	s := source(33)
	a := s.full(api.MaxDegree)
	for _, log := range []int{0, 1, 8, 14, 15, 16} {
		n := 1 << log
		quotient, rest, e := poly.Vanish(a, log)
		if e != api.OK || len(quotient) != api.MaxDegree-n || len(rest) > n {
			t.Fatal("Vanish", log, len(quotient), len(rest), e)
		}
		x := s.wide()
		vanishing := value(less(monomial(n), list(1)), x)
		if got := sum([]api.Fe{times(value(quotient, x), vanishing)}, []api.Fe{value(rest, x)}); got[0] != value(a, x) {
			t.Error("the polynomial's value", log)
		}
	}
	quotient, rest, e := poly.Vanish(tailed(a[:3], 9), 16)
	must(t, "Vanish's quotient", quotient, e, nil)
	must(t, "Vanish's rest", rest, e, short(a[:3]))
}

// TestVanishRefused: P7.3, ErrDomain, and P7.1's errors ahead of it.
func TestVanishRefused(t *testing.T) {
	refuse := func(a []api.Fe, log int, wrong api.Errno) {
		t.Helper()
		if quotient, rest, e := poly.Vanish(a, log); quotient != nil || rest != nil || e != wrong {
			t.Error("Vanish", len(a), log, len(quotient), len(rest), e, wrong)
		}
	}
	for _, log := range append(noDomains(), mostValues+1, 20, api.MaxLog) {
		refuse(list(1, 2, 3), log, api.ErrDomain)
		refuse(nil, log, api.ErrDomain)
		refuse(append(list(1, 2), above()...), log, api.ErrElement)
		refuse(make([]api.Fe, api.MaxDegree+1), log, api.ErrDegree)
	}
}
