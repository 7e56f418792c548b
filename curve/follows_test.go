package curve_test

import (
	"math/big"
	"slices"
	"sync"
	"testing"

	"causeway/api"
	"causeway/curve"
)

// sure takes an answer that may have no error.
func sure(t *testing.T) func(p api.G2, e api.Errno) api.G2 { return surely[api.G2](t) }

func surely[G any](t *testing.T) func(p G, e api.Errno) G {
	return func(p G, e api.Errno) G {
		t.Helper()
		if e != api.OK {
			t.Fatal("an error", e)
		}
		return p
	}
}

// TestGroup: P4.4, sums are commutative and associative; multiples by sums and products; by the order.
func TestGroup(t *testing.T) {
	testGroup(t, one())
	testGroup(t, two())
}

func testGroup[G comparable](t *testing.T, f face[G]) {
	ok := surely[G](t)
	add := func(p, q G) G { return ok(f.add(p, q)) }
	mul := func(p G, n *big.Int) G { return ok(f.mul(p, ofBig(n))) }
	s := source(830)
	l := append(f.points(831), f.draw(&s)...)
	pick := func() G { return l[s.word()%uint64(len(l))] }
	for range 60 {
		p, q, r := pick(), pick(), pick()
		if add(p, q) != add(q, p) || add(add(p, q), r) != add(p, add(q, r)) {
			t.Fatal("sums", f.name, p, q, r)
		}
		if add(p, f.infinity()) != p || add(p, ok(f.neg(p))) != f.infinity() {
			t.Fatal("infinity", f.name, p)
		}
		// Sums and products below 2^256.
		a, b := toBig(s.number()), toBig(s.number())
		a.Rsh(a, 1)
		b.Rsh(b, 1)
		if mul(p, new(big.Int).Add(a, b)) != add(mul(p, a), mul(p, b)) {
			t.Fatal("by a sum", f.name, p, a, b)
		}
		a.Rsh(a, 127)
		b.Rsh(b, 127)
		if mul(p, new(big.Int).Mul(a, b)) != mul(mul(p, a), b) {
			t.Fatal("by a product", f.name, p, a, b)
		}
		if mul(add(p, q), a) != add(mul(p, a), mul(q, a)) {
			t.Fatal("of a sum", f.name, p, q, a)
		}
	}
}

// TestByOrder: P4.4, by the order infinity in both groups, and on the twist just there.
func TestByOrder(t *testing.T) {
	for _, p := range one().points(840) {
		if got, e := curve.Mul1(p, curve.Order()); got != (api.G1{Inf: true}) || e != api.OK {
			t.Error("Mul1 by the order", p, got, e)
		}
	}
	for _, p := range two().points(841) {
		got, e := curve.Mul2(p, curve.Order())
		if e != api.OK || (got == api.G2{Inf: true}) != curve.In2(p) {
			t.Error("Mul2 by the order", p, got, e)
		}
		// The order of the twist.
		all, e := curve.Mul2(got, ofBig(cofactor()))
		if all != (api.G2{Inf: true}) || e != api.OK {
			t.Error("Mul2 by the twist's order", p, all, e)
		}
	}
}

// TestAnyOrder: P4.5, what is answered is on its curve, and sums are what Add and Mul make, in any order.
func TestAnyOrder(t *testing.T) {
	testAnyOrder(t, one())
	testAnyOrder(t, two())
}

func testAnyOrder[G comparable](t *testing.T, f face[G]) {
	ok := surely[G](t)
	s := source(850)
	for _, size := range []int{1, 4, 20, 40} {
		points := f.points(851)
		l, n := make([]G, size), make([]api.Word, size)
		sum := f.infinity()
		for i := range l {
			l[i], n[i] = points[s.word()%uint64(len(points))], s.number()
			sum = ok(f.add(sum, ok(f.mul(l[i], n[i]))))
			if f.on(sum) != api.OK {
				t.Fatal("On of a sum", f.name, sum)
			}
		}
		for range 4 {
			if got := ok(f.multi(l, n)); got != sum || f.on(got) != api.OK {
				t.Fatal("Multi", f.name, l, n, got)
			}
			i, j := s.word()%uint64(size), s.word()%uint64(size)
			l[i], l[j], n[i], n[j] = l[j], l[i], n[j], n[i]
			slices.Reverse(l)
			slices.Reverse(n)
		}
	}
}

// TestSum1AnyOrder: P4.5, of Sum1.
func TestSum1AnyOrder(t *testing.T) {
	ok := surely[api.G1](t)
	l := one().points(860)
	sum := api.G1{Inf: true}
	for i, p := range l[:len(l)-2] {
		sum = ok(curve.Add1(sum, p))
		forth := slices.Clone(l[:i+1])
		slices.Reverse(forth)
		if ok(curve.Sum1(l[:i+1])) != sum || ok(curve.Sum1(forth)) != sum {
			t.Fatal("Sum1", l[:i+1])
		}
	}
}

// TestWhateverIsGiven: P1 and P4 of DOC.md, there is an answer to all parts and numbers, and beside an error nothing.
func TestWhateverIsGiven(t *testing.T) {
	testWhateverIsGiven(t, one())
	testWhateverIsGiven(t, two())
}

func testWhateverIsGiven[G comparable](t *testing.T, f face[G]) {
	s := source(870)
	for range 300 {
		var l [2]G
		for i := range l {
			if s.word()%4 == 0 {
				l[i] = f.gen()
			}
			for _, x := range f.parts(&l[i]) {
				if s.word()%2 == 0 {
					*x = api.Fe(s.number())
				}
			}
			if s.word()%3 == 0 {
				l[i] = f.flagged(l[i])
			}
		}
		wrong := f.on(l[0])
		if wrong == api.OK {
			wrong = f.on(l[1])
		}
		for _, c := range f.calls()[3:] {
			if none, e := c.of(l[0], l[1]); e != wrong || e != api.OK && !none {
				t.Fatal(c.name, f.name, l, none, e)
			}
		}
	}
}

// TestMemory: P4.7, P2 and P3 of DOC.md: what is handed in stays, and a call answers the same again, whatever was called between.
func TestMemory(t *testing.T) {
	testMemory(t, one())
	testMemory(t, two())
	l := one().points(880)
	kept := slices.Clone(l)
	first, _ := curve.Sum1(l)
	if again, e := curve.Sum1(l); again != first || e != api.OK || !slices.Equal(l, kept) {
		t.Error("Sum1", again, e)
	}
	p := curve.Gen2()
	p.X.A[0]++
	if curve.Gen2() == p {
		t.Error("Gen2 changed")
	}
	n := curve.Order()
	n[0]++
	if curve.Order() == n {
		t.Error("Order changed")
	}
}

func testMemory[G comparable](t *testing.T, f face[G]) {
	s := source(890)
	for _, size := range []int{3, 60} {
		points := f.points(891)
		l, n := make([]G, size), make([]api.Word, size)
		for i := range l {
			l[i], n[i] = points[s.word()%uint64(len(points))], s.number()
		}
		keptPoints, keptNumbers := slices.Clone(l), slices.Clone(n)
		first, e := f.multi(l, n)
		if e != api.OK {
			t.Fatal("Multi", f.name, e)
		}
		f.multi(points, make([]api.Word, len(points)))
		if again, e := f.multi(l, n); again != first || e != api.OK {
			t.Error("Multi answers another time", f.name, again, e)
		}
		if !slices.Equal(l, keptPoints) || !slices.Equal(n, keptNumbers) {
			t.Error("Multi changed its lists", f.name)
		}
	}
}

// TestNothingElse: P3 of DOC.md, calls side by side answer what they answer alone.
func TestNothingElse(t *testing.T) {
	s := source(900)
	l, n := two().points(901), []api.Word{}
	for range l {
		n = append(n, s.number())
	}
	l, n = slices.Repeat(l, 2), slices.Repeat(n, 2)
	want, _ := curve.Multi2(l, n)
	turned, _ := curve.Psi2(l[1])
	var group sync.WaitGroup
	for range 8 {
		group.Go(func() {
			if got, e := curve.Multi2(l, n); got != want || e != api.OK {
				t.Error("Multi2", got, e)
			}
			if got, e := curve.Psi2(l[1]); got != turned || e != api.OK || !curve.In2(l[1]) {
				t.Error("Psi2", got, e)
			}
		})
	}
	group.Wait()
}
