package poly_test

import (
	"slices"
	"testing"

	"causeway/api"
	"causeway/poly"
)

// TestTrim: P7.1, zeros behind go, others stay.
func TestTrim(t *testing.T) {
	s := source(1)
	for _, a := range s.some() {
		got, e := poly.Trim(a)
		must(t, "Trim", got, e, short(a))
	}
	long := make([]api.Fe, api.MaxDegree)
	got, e := poly.Trim(long)
	must(t, "Trim of many zeros", got, e, nil)
	long[api.MaxDegree-1] = whole(1)
	got, e = poly.Trim(long)
	must(t, "Trim of the greatest degree", got, e, long)
}

// TestSums: P7.1, Add and Sub of lists as long as one another or not.
func TestSums(t *testing.T) {
	s := source(2)
	l := s.some()
	for i, a := range l {
		for _, b := range l {
			got, e := poly.Add(a, b)
			must(t, "Add", got, e, sum(a, b))
			got, e = poly.Sub(a, b)
			must(t, "Sub", got, e, less(a, b))
		}
		got, e := poly.Sub(a, tailed(a, i%3))
		must(t, "Sub of itself", got, e, nil)
		negative, _ := poly.Sub(nil, a)
		got, e = poly.Add(a, negative)
		must(t, "Add of the negative", got, e, nil)
	}
	long := s.full(api.MaxDegree)
	got, e := poly.Add(long, monomial(api.MaxDegree-1))
	must(t, "Add of the greatest degree", got, e, sum(long, monomial(api.MaxDegree-1)))
	got, e = poly.Sub(long, long[:api.MaxDegree-1])
	must(t, "Sub of all but one", got, e, append(make([]api.Fe, api.MaxDegree-1), long[api.MaxDegree-1]))
}

// TestScale: P7.1, by 0 too.
func TestScale(t *testing.T) {
	s := source(3)
	for _, a := range s.some() {
		for _, c := range append(list(0, 1, -1, 2), s.wide(), s.wide()) {
			got, e := poly.Scale(a, c)
			must(t, "Scale", got, e, product(a, []api.Fe{c}))
		}
	}
	long := s.full(api.MaxDegree)
	got, e := poly.Scale(long, whole(1))
	must(t, "Scale of the greatest degree", got, e, long)
}

// TestMul: P7.1, of few coefficients.
func TestMul(t *testing.T) {
	s := source(4)
	l := s.some()
	for _, a := range l {
		for _, b := range l {
			got, e := poly.Mul(a, b)
			must(t, "Mul", got, e, product(a, b))
		}
	}
}

// TestMulMany: P7.1, of so many coefficients that it may go by other means, around the powers of 2.
func TestMulMany(t *testing.T) {
	s := source(5)
	for _, n := range []int{31, 32, 33, 63, 64, 65, 66, 100, 127, 128, 129, 192, 193} {
		for _, m := range []int{1, 2, 63, 64, 65, 66, 128, 129} {
			a, b := s.full(n), s.full(m)
			want := product(a, b)
			got, e := poly.Mul(tailed(a, n%3), tailed(b, m%2))
			must(t, "Mul", got, e, want)
			got, e = poly.Mul(b, a)
			must(t, "Mul, turned round", got, e, want)
		}
	}
	for range 20 {
		a, b := monomial(int(s.word()%400)), monomial(int(s.word()%400))
		got, e := poly.Mul(a, b)
		must(t, "Mul of powers", got, e, monomial(len(a)+len(b)-2))
	}
}

// TestMulGreat: P7.1, the product's degree may be up to MaxDegree - 1, whatever the lists' zeros are.
func TestMulGreat(t *testing.T) {
	s := source(6)
	for _, n := range []int{1, 2, 64, 65, 5000, 32768} {
		a, b := s.full(n), s.full(api.MaxDegree+1-n)
		got, e := poly.Mul(a, b)
		if e != api.OK || len(got) != api.MaxDegree || got[api.MaxDegree-1] != times(a[n-1], b[len(b)-1]) {
			t.Fatal("Mul of the greatest degree", n, len(got), e)
		}
		for range 2 {
			if x := s.wide(); value(got, x) != times(value(a, x), value(b, x)) {
				t.Error("Mul's value", n, x)
			}
		}
		if more, e := poly.Mul(a, s.full(api.MaxDegree+2-n)); n > 1 && (more != nil || e != api.ErrDegree) {
			t.Error("Mul of too great a degree", n, len(more), e)
		}
	}
	half := tailed(monomial(api.MaxDegree/2), api.MaxDegree/2-1)
	got, e := poly.Mul(half, half[:api.MaxDegree/2])
	must(t, "Mul by zeros", got, e, nil)
	got, e = poly.Mul(half, tailed(monomial(api.MaxDegree/2-1), api.MaxDegree/2))
	must(t, "Mul of lists with zeros behind", got, e, monomial(api.MaxDegree-1))
	if got, e := poly.Mul(half, half); got != nil || e != api.ErrDegree {
		t.Error("Mul of the degree MaxDegree", len(got), e)
	}
	last := monomial(api.MaxDegree - 1)
	if got, e := poly.Mul(last, last); got != nil || e != api.ErrDegree {
		t.Error("Mul of the greatest lists", len(got), e)
	}
	got, e = poly.Mul(last, make([]api.Fe, api.MaxDegree))
	must(t, "Mul by 0", got, e, nil)
}

// TestEval: P7.1, the value; of 0 it is 0.
func TestEval(t *testing.T) {
	s := source(7)
	l := append(s.some(), s.full(300), s.full(api.MaxDegree))
	for _, a := range l {
		for _, x := range append(list(0, 1, -1, 2), s.wide()) {
			if got, e := poly.Eval(a, x); got != value(a, x) || e != api.OK {
				t.Fatal("Eval", len(a), x, got, e)
			}
		}
	}
}

// TestNilIsEmpty: P1 of DOC.md, nil and empty lists are one to every call.
func TestNilIsEmpty(t *testing.T) {
	a := list(3, 1)
	for _, with := range [][2][]api.Fe{{nil, {}}, {a, a}} {
		for _, other := range [][]api.Fe{nil, {}, a} {
			for i, of := range []func(x, y []api.Fe) ([]api.Fe, api.Errno){poly.Add, poly.Sub, poly.Mul} {
				one, e := of(with[0], other)
				two, again := of(with[1], other)
				if !slices.Equal(one, two) || e != api.OK || again != api.OK {
					t.Error("a call of two lists", i, one, two, e, again)
				}
			}
		}
		for log := range 4 {
			one, e := poly.Values(with[0], log+1, whole(5))
			two, again := poly.Values(with[1], log+1, whole(5))
			if !slices.Equal(one, two) || len(one) != 2<<log || e != again || e != api.OK {
				t.Error("Values", log, one, two, e, again)
			}
			_, e = poly.Coeffs(with[0], log, whole(5))
			if _, again := poly.Coeffs(with[1], log, whole(5)); e != again {
				t.Error("Coeffs", log, e, again)
			}
		}
	}
}
