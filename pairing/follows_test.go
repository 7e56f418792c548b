package pairing_test

import (
	"math/big"
	"slices"
	"sync"
	"testing"

	"causeway/api"
	"causeway/curve"
	"causeway/pairing"
	"causeway/tower"
)

// TestSums: P6.3, Pair of sums is the product, on either side.
func TestSums(t *testing.T) {
	s := source(31)
	one := []api.G1{infinity1(), of1(1), s.one(), s.one()}
	two := []api.G2{infinity2(), of2(1), s.two(), s.two()}
	for i, p := range one {
		for j, q := range two {
			a := pair(t, p, q)
			other := one[(i+j)%len(one)]
			if pair(t, sum1(p, other), q) != tower.Mul12(a, pair(t, other, q)) {
				t.Error("Pair of a sum in G1", p, other, q)
			}
			next := two[(i+2*j+1)%len(two)]
			if pair(t, p, sum2(q, next)) != tower.Mul12(a, pair(t, p, next)) {
				t.Error("Pair of a sum in G2", p, q, next)
			}
			inverse := tower.Conj12(a)
			if pair(t, minus1(p), q) != inverse || pair(t, p, minus2(q)) != inverse || pair(t, minus1(p), minus2(q)) != a {
				t.Error("Pair of negatives", p, q)
			}
		}
	}
}

// TestMultiples: P6.3, Pair(a P, b Q) is Pair(P, Q) to the a b, on both sides.
func TestMultiples(t *testing.T) {
	s := source(32)
	p, q := s.one(), s.two()
	e := pair(t, p, q)
	numbers := []api.Word{{}, {1}, {2}, {most}, word(new(big.Int).Sub(order(), big.NewInt(1))), {most, most, most, most}}
	for range 12 {
		numbers = append(numbers, s.number())
	}
	for i, a := range numbers {
		b := numbers[(5*i+7)%len(numbers)]
		got := pair(t, times1(p, a), times2(q, b))
		if got != tower.Exp12(tower.Exp12(e, a), b) || got != pair(t, times1(p, b), times2(q, a)) {
			t.Error("Pair of multiples", a, b)
		}
	}
}

// TestNotDegenerate: P6.4, the order of Pair of the generators is r.
func TestNotDegenerate(t *testing.T) {
	e := pair(t, curve.Gen1(), curve.Gen2())
	if e == tower.One12() {
		t.Fatal("Pair of the generators is one")
	}
	check := func(n *big.Int) {
		divided := new(big.Int).Mod(n, order()).Sign() == 0
		if (tower.Exp12(e, word(n)) == tower.One12()) != divided {
			t.Error("the power of Pair of the generators", n, divided)
		}
	}
	for n := range int64(40) {
		check(big.NewInt(n))
	}
	for by := range int64(5) {
		for off := int64(-2); off <= 2; off++ {
			n := new(big.Int).Mul(order(), big.NewInt(by+1))
			check(n.Add(n, big.NewInt(off)))
		}
	}
	s := source(33)
	for range 20 {
		check(number(s.number()))
	}
}

// TestGenerators: P6.5, Pair(a G, b H) is one just if r divides a b; Check of (P, -P), (Q, Q) holds.
func TestGenerators(t *testing.T) {
	s := source(34)
	twice := new(big.Int).Lsh(order(), 1)
	numbers := []*big.Int{big.NewInt(0), big.NewInt(1), big.NewInt(2), order(), twice, new(big.Int).Sub(order(), big.NewInt(1)), new(big.Int).Add(twice, big.NewInt(1)), number(s.number())}
	for _, a := range numbers {
		for _, b := range numbers {
			product := new(big.Int).Mul(a, b)
			want := product.Mod(product, order()).Sign() == 0
			p, q := times1(curve.Gen1(), word(a)), times2(curve.Gen2(), word(b))
			if (pair(t, p, q) == tower.One12()) != want {
				t.Error("Pair of multiples of the generators", a, b, want)
			}
			if is, e := pairing.Check([]api.G1{p, minus1(p)}, []api.G2{q, q}); !is || e != api.OK {
				t.Error("Check of a point and its negative", p, q, is, e)
			}
		}
	}
}

// TestAnswers: P6.6, what Pair answers is InGroup and in the cyclotomic subgroup; Final of it is its power (p^12 - 1) / r modulo r.
func TestAnswers(t *testing.T) {
	s := source(35)
	n := word(new(big.Int).Mod(lastPower(), order()))
	for i := range 12 {
		p, q := s.one(), s.two()
		switch i {
		case 0:
			p = infinity1()
		case 1:
			p, q = curve.Gen1(), curve.Gen2()
		}
		a := pair(t, p, q)
		if !pairing.InGroup(a) || !tower.InCyclo(a) {
			t.Error("Pair's answer is out of the group", p, q)
		}
		if final(t, a) != tower.Exp12(a, n) {
			t.Error("Final of Pair's answer", p, q)
		}
		all, _ := pairing.Product([]api.G1{p, of1(3)}, []api.G2{q, of2(5)})
		if !pairing.InGroup(all) || !tower.InCyclo(all) {
			t.Error("Product's answer is out of the group", p, q)
		}
	}
}

// TestFinalOfProducts: P6.6, Final of a product is the product, and is InGroup.
func TestFinalOfProducts(t *testing.T) {
	s := source(36)
	l := append(edges(), s.element(), s.element(), s.element(), pair(t, of1(1), of2(1)))
	for i, a := range l {
		b := l[(7*i+5)%len(l)]
		got := final(t, tower.Mul12(a, b))
		if got != tower.Mul12(final(t, a), final(t, b)) || !pairing.InGroup(got) {
			t.Error("Final of a product", a, b, got)
		}
	}
}

// TestMemory: P6.7, P2 of DOC.md: lists that are handed in stay, with what lies behind them, of refused calls too.
func TestMemory(t *testing.T) {
	for _, bad := range []bool{false, true} {
		p := []api.G1{of1(1), infinity1(), of1(-1), of1(9)}
		q := []api.G2{of2(1), of2(2), of2(1), of2(9)}
		if bad {
			p[1] = api.G1{X: above()[4], Y: above()[4]}
		}
		oldP, oldQ := slices.Clone(p), slices.Clone(q)
		first, _ := pairing.Product(p[:3], q[:3])
		pairing.Check(p[:3], q[:3])
		pairing.Product(p, q[:3])
		if !slices.Equal(p, oldP) || !slices.Equal(q, oldQ) {
			t.Error("the lists are changed", bad)
		}
		// Nothing of them is kept.
		clear(p)
		clear(q)
		if again, _ := pairing.Product(oldP[:3], oldQ[:3]); again != first {
			t.Error("Product answers another time otherwise", bad)
		}
	}
}

// TestNothingElse: P3 of DOC.md, calls side by side answer what they answer alone.
func TestNothingElse(t *testing.T) {
	want := make([]api.E12, 6)
	for i := range want {
		want[i] = pair(t, of1(int64(i)), of2(int64(i)-9))
	}
	var group sync.WaitGroup
	for i := range want {
		group.Go(func() {
			for range 5 {
				got, e := pairing.Pair(of1(int64(i)), of2(int64(i)-9))
				last, again := pairing.Final(want[i])
				alone, _ := pairing.Final(got)
				if got != want[i] || e != api.OK || last != alone || again != api.OK || !pairing.InGroup(got) {
					t.Error("side by side", i, got, e, again)
				}
			}
		})
	}
	group.Wait()
}

// TestWhateverIsGiven: P1 of DOC.md, there is an answer to all points and elements.
func TestWhateverIsGiven(t *testing.T) {
	for fill := range uint64(32) {
		w := fill * 0x0842_1084_2108_4210
		x := api.Fe{w, w, w, w >> (fill % 4)}
		for _, infinite := range []bool{false, true} {
			p := api.G1{X: x, Y: x, Inf: infinite}
			q := api.G2{X: api.E2{A: x, B: x}, Y: api.E2{A: x, B: x}, Inf: infinite}
			for _, l := range [][]api.G1{nil, {p}, {curve.Gen1()}, {p, p}} {
				for _, m := range [][]api.G2{nil, {q}, {curve.Gen2()}} {
					got, e := pairing.Product(l, m)
					is, again := pairing.Check(l, m)
					if e != again || is != (e == api.OK && got == tower.One12()) || e != api.OK && got != (api.E12{}) {
						t.Error("Product and Check", l, m, got, e, is, again)
					}
				}
			}
		}
		var a api.E12
		for i, part := range parts(&a) {
			*part = api.Fe{w, w >> i, w << i, x[3]}
		}
		got, e := pairing.Final(a)
		if e != api.OK && got != (api.E12{}) || e == api.OK && !pairing.InGroup(got) {
			t.Error("Final", a, got, e)
		}
		pairing.InGroup(a)
	}
}
