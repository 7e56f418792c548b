package poly_test

import (
	"slices"
	"testing"

	"causeway/api"
	"causeway/poly"
)

// mostValues is the log of the greatest domain of which all values are told.
const mostValues = 16

// shifts are those of some cosets, of the domain itself, and of some that are in it.
func (s *source) shifts() []api.Fe {
	return append(list(1, -1, 2, 5), rootOf(2), rootOf(28), s.wide())
}

// TestValues: P7.2, each value, of a degree up to the domain's last place.
func TestValues(t *testing.T) {
	s := source(21)
	for log := range 6 {
		for _, shift := range s.shifts() {
			for n := range 1<<log + 1 {
				a := s.full(n)
				got, e := poly.Values(tailed(a, n%5), log, shift)
				if e != api.OK || len(got) != 1<<log {
					t.Fatal("Values", log, shift, n, len(got), e)
				}
				for i := range got {
					if got[i] != value(a, times(shift, raised(rootOf(log), int64(i)))) {
						t.Fatal("a value", log, shift, n, i, got[i])
					}
				}
			}
		}
	}
}

// TestValuesGreat: P7.2, up to the greatest domain: some values.
func TestValuesGreat(t *testing.T) {
	s := source(22)
	for log := 6; log <= mostValues; log++ {
		a, shift := s.full(1<<log), s.wide()
		got, e := poly.Values(a, log, shift)
		if e != api.OK || len(got) != 1<<log {
			t.Fatal("Values", log, len(got), e)
		}
		for _, i := range []int{0, 1, 1<<log - 1, 1 << (log - 1), int(s.word() % (1 << log))} {
			if got[i] != value(a, times(shift, raised(rootOf(log), int64(i)))) {
				t.Error("a value", log, i, got[i])
			}
		}
		back, e := poly.Coeffs(got, log, shift)
		must(t, "Coeffs of Values", back, e, a)
	}
}

// TestCoeffs: P7.2 and P7.5, of any values: a polynomial, trimmed, that has them, and of Values the polynomial.
func TestCoeffs(t *testing.T) {
	s := source(23)
	for log := range 8 {
		for _, shift := range s.shifts() {
			values := s.list(1 << log)
			a, e := poly.Coeffs(values, log, shift)
			if e != api.OK || len(a) > 1<<log || len(short(a)) != len(a) {
				t.Fatal("Coeffs", log, shift, len(a), e)
			}
			for range 4 {
				i := int(s.word() % (1 << log))
				if value(a, times(shift, raised(rootOf(log), int64(i)))) != values[i] {
					t.Error("Coeffs' value", log, shift, i)
				}
			}
			again, e := poly.Values(a, log, shift)
			must(t, "Values of Coeffs", again, e, values)
			for _, n := range []int{0, 1, 1 << log / 2, 1 << log} {
				a = s.full(n)
				values, _ := poly.Values(a, log, shift)
				back, e := poly.Coeffs(values, log, shift)
				must(t, "Coeffs of Values", back, e, a)
			}
		}
	}
}

// TestValuesOfMul: P7.5, values at a product are products.
func TestValuesOfMul(t *testing.T) {
	s := source(24)
	for log := 1; log <= 10; log++ {
		a, b, shift := s.full(1<<log/2), s.full(1<<log/2+1), s.wide()
		all, e := poly.Mul(a, b)
		if e != api.OK {
			t.Fatal("Mul", log, e)
		}
		of, _ := poly.Values(all, log, shift)
		ofA, _ := poly.Values(a, log, shift)
		ofB, _ := poly.Values(b, log, shift)
		for i := range of {
			if of[i] != times(ofA[i], ofB[i]) {
				t.Fatal("a value of the product", log, i)
			}
		}
	}
}

// TestValuesRefused: P7.2 and P4 of DOC.md, P7.1's errors, then ErrDomain, ErrZero and ErrDegree, or ErrCount of Coeffs.
func TestValuesRefused(t *testing.T) {
	s := source(25)
	refuse := func(a []api.Fe, log int, shift api.Fe, ofValues, ofCoeffs api.Errno) {
		t.Helper()
		if got, e := poly.Values(a, log, shift); e != ofValues || e != api.OK && got != nil {
			t.Error("Values", len(a), log, shift, len(got), e, ofValues)
		}
		if got, e := poly.Coeffs(a, log, shift); e != ofCoeffs || e != api.OK && got != nil {
			t.Error("Coeffs", len(a), log, shift, len(got), e, ofCoeffs)
		}
	}
	both := func(a []api.Fe, log int, shift api.Fe, wrong api.Errno) {
		t.Helper()
		refuse(a, log, shift, wrong, wrong)
	}
	long := make([]api.Fe, api.MaxDegree+1)
	for _, bad := range above() {
		both(long, 3, bad, api.ErrDegree)
		both([]api.Fe{bad}, -1, whole(0), api.ErrElement)
		both(s.full(9), -1, bad, api.ErrElement)
		both(s.full(9), 2, bad, api.ErrElement)
	}
	for _, log := range append(noDomains(), mostValues+1, 20, api.MaxLog) {
		both(s.full(9), log, whole(0), api.ErrDomain)
		both(nil, log, whole(1), api.ErrDomain)
	}
	for log := range mostValues + 1 {
		both(s.full(9), log, whole(0), api.ErrZero)
		both(s.full(1<<log), log, whole(0), api.ErrZero)
	}
	for log := range mostValues {
		size := 1 << log
		refuse(s.full(size+1), log, whole(3), api.ErrDegree, api.ErrCount)
		refuse(monomial(size), log, whole(1), api.ErrDegree, api.ErrCount)
		refuse(tailed(s.full(size), 1), log, whole(3), api.OK, api.ErrCount)
		refuse(s.full(size-1), log, whole(3), api.OK, api.ErrCount)
		refuse(make([]api.Fe, size), log, whole(3), api.OK, api.OK)
	}
	refuse(monomial(api.MaxDegree-1), 15, whole(1), api.ErrDegree, api.ErrCount)
	refuse(make([]api.Fe, api.MaxDegree), 0, whole(1), api.OK, api.ErrCount)
	refuse(nil, 0, whole(1), api.OK, api.ErrCount)
}

// TestExamples: the chapter's examples of layer 7, as elements.
func TestExamples(t *testing.T) {
	got, e := poly.Values(list(1, 2), 1, whole(1))
	must(t, "Values", got, e, list(3, -1))
	quotient, rest, e := poly.Linear(list(-1, 0, 1), whole(1))
	must(t, "Linear", quotient, e, list(1, 1))
	if rest != whole(0) {
		t.Error("Linear's rest", rest)
	}
	quotient, low, e := poly.Vanish(list(0, 0, 0, 1), 1)
	must(t, "Vanish", quotient, e, list(0, 1))
	if !slices.Equal(low, list(0, 1)) {
		t.Error("Vanish's rest", low)
	}
}
