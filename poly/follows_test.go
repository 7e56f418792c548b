package poly_test

import (
	"slices"
	"sync"
	"testing"

	"causeway/api"
	"causeway/poly"
)

// TestLagrangeSum: P7.6, the basis' values at a place have the sum 1; each times the polynomial's value at its place, they tell its value.
func TestLagrangeSum(t *testing.T) {
	s := source(61)
	for log := range 7 {
		a := s.full(1 << log)
		values, _ := poly.Values(a, log, whole(1))
		for _, x := range append(list(0, 1, 2), s.wide(), raised(rootOf(log), 3)) {
			var all, told []api.Fe
			for i := range values {
				l, e := poly.Lagrange(log, i, x)
				if e != api.OK {
					t.Fatal("Lagrange", log, i, x, e)
				}
				all, told = sum(all, []api.Fe{l}), sum(told, []api.Fe{times(l, values[i])})
			}
			must(t, "the values' sum", all, api.OK, list(1))
			must(t, "the polynomial's value", told, api.OK, short([]api.Fe{value(a, x)}))
		}
	}
}

// TestDivided: P7.5, by the calls alone: a polynomial is quotient times divisor and rest.
func TestDivided(t *testing.T) {
	s := source(62)
	for log := range 9 {
		a, x := s.full(700), s.wide()
		vanishing, _ := poly.Sub(monomial(1<<log), list(1))
		quotient, rest, _ := poly.Vanish(a, log)
		all, _ := poly.Mul(quotient, vanishing)
		all, e := poly.Add(all, rest)
		must(t, "Vanish", all, e, a)
		quotient, value, _ := poly.Linear(a, x)
		all, _ = poly.Mul(quotient, less(list(0, 1), []api.Fe{x}))
		all, e = poly.Add(all, []api.Fe{value})
		must(t, "Linear", all, e, a)
		if got, e := poly.Eval(a, x); got != value || e != api.OK {
			t.Error("Eval", got, value, e)
		}
	}
}

// lists are all calls' answers that are lists, of two polynomials of four coefficients.
func lists(a, b []api.Fe) [][]api.Fe {
	var l [][]api.Fe
	add := func(lists ...[]api.Fe) { l = append(l, lists...) }
	one, _ := poly.Trim(a)
	two, _ := poly.Add(a, b)
	three, _ := poly.Sub(a, b)
	four, _ := poly.Scale(a, whole(1))
	five, _ := poly.Mul(a, b)
	add(one, two, three, four, five)
	one, _ = poly.Values(a, 2, whole(1))
	two, _ = poly.Coeffs(a, 2, whole(1))
	three, _, _ = poly.Linear(a, whole(3))
	four, five, _ = poly.Vanish(a, 1)
	add(one, two, three, four, five)
	one, _ = poly.Add(a, nil)
	two, _ = poly.Add(nil, b)
	three, _ = poly.Sub(a, nil)
	four, five, _ = poly.Vanish(a, 2)
	add(one, two, three, four, five)
	one, _ = poly.Values(a[:1], 0, whole(1))
	two, _ = poly.Coeffs(a[:1], 0, whole(1))
	three, _ = poly.Mul(a, list(1))
	four, five, _ = poly.Vanish(a, 0)
	add(one, two, three, four, five)
	return l
}

// TestMemory: P7.7, P2 of DOC.md: what is handed in stays, with what lies behind it; each answer has memory of its own.
func TestMemory(t *testing.T) {
	a, b := list(1, 2, 3, 4, 99, 98), list(5, 6, 7, 8, 97)
	oldA, oldB := slices.Clone(a), slices.Clone(b)
	want := lists(a[:4], b[:4])
	if !slices.Equal(a, oldA) || !slices.Equal(b, oldB) {
		t.Fatal("the arguments are changed")
	}
	// What is written into one answer, and behind it, is seen nowhere else.
	for i := range want {
		got := lists(a[:4], b[:4])
		whole := got[i][:cap(got[i])]
		for j := range whole {
			whole[j] = api.Fe{77, 77}
		}
		for j := range got {
			if j != i && !slices.Equal(got[j], want[j]) {
				t.Error("two answers share memory", i, j)
			}
		}
		if !slices.Equal(a, oldA) || !slices.Equal(b, oldB) {
			t.Fatal("an answer shares memory with an argument", i)
		}
	}
	// Nothing is kept of the arguments.
	got := lists(a[:4], b[:4])
	clear(a)
	clear(b)
	for i := range got {
		if !slices.Equal(got[i], want[i]) {
			t.Error("an answer hangs on an argument", i)
		}
	}
}

// TestMemoryRefused: P7.7, P2 and P4 of DOC.md: what is refused stays as it was, too.
func TestMemoryRefused(t *testing.T) {
	for _, bad := range append(above(), api.Fe{}) {
		a := append(list(1, 2, 0, 0), bad, whole(9))
		old := slices.Clone(a)
		for _, l := range [][]api.Fe{a[:5], a[:4], a} {
			poly.Trim(l)
			poly.Mul(l, l)
			poly.Values(l, 1, bad)
			poly.Coeffs(l, 1, bad)
			poly.Linear(l, bad)
			poly.Vanish(l, 1)
			poly.Scale(l, bad)
			poly.Eval(l, bad)
			poly.Add(l, l)
			poly.Sub(l, l)
			if !slices.Equal(a, old) {
				t.Fatal("the argument is changed", bad)
			}
		}
	}
}

// TestNothingElse: P3 of DOC.md, calls side by side answer what they answer alone.
func TestNothingElse(t *testing.T) {
	s := source(63)
	a, b := s.full(150), s.full(200)
	product, _ := poly.Mul(a, b)
	values, _ := poly.Values(a, 8, whole(7))
	first, _ := poly.Lagrange(28, 12345, whole(7))
	var group sync.WaitGroup
	for range 8 {
		group.Go(func() {
			for range 5 {
				all, _ := poly.Mul(a, b)
				of, _ := poly.Values(a, 8, whole(7))
				back, _ := poly.Coeffs(of, 8, whole(7))
				l, _ := poly.Lagrange(28, 12345, whole(7))
				if !slices.Equal(all, product) || !slices.Equal(of, values) || !slices.Equal(back, a) || l != first {
					t.Error("side by side")
				}
			}
		})
	}
	group.Wait()
}
