package curve_test

import (
	"math/big"
	"slices"
	"testing"

	"causeway/api"
	"causeway/curve"
)

// TestNeg: P4.2, the negative.
func TestNeg(t *testing.T) {
	testNeg(t, one())
	testNeg(t, two())
}

func testNeg[G comparable](t *testing.T, f face[G]) {
	for _, p := range f.points(730) {
		if got, e := f.neg(p); got != f.of(f.spot(p).negative()) || e != api.OK {
			t.Error("Neg", f.name, p, got, e)
		}
	}
}

// TestAdd: P4.2, sums by chord and tangent: of infinity, of one point twice, of opposites, of points with one Y.
func TestAdd(t *testing.T) {
	testAdd(t, one())
	testAdd(t, two())
}

func testAdd[G comparable](t *testing.T, f face[G]) {
	l := f.points(740)
	// Another point with the same Y: X times a third root of one.
	root := whole(3, 0).to(new(big.Int).Div(prime(), big.NewInt(3)))
	if root.is(whole(1, 0)) {
		t.Fatal("the test's third root")
	}
	for _, p := range l[1:7] {
		q := f.spot(p)
		l = append(l, f.of(spot{q.x.times(root), q.y, false}), f.of(spot{q.x.times(root).times(root), q.y, false}))
	}
	for _, p := range l {
		for _, q := range l {
			if got, e := f.add(p, q); got != f.of(f.spot(p).plus(f.spot(q))) || e != api.OK {
				t.Fatal("Add", f.name, p, q, got, e)
			}
		}
	}
}

// numbers are the ends of 256 bits, of r, and of digits, and drawn ones.
func numbers(seed source) []api.Word {
	l := []api.Word{{most, most, most, most}}
	for n := range uint64(36) {
		l = append(l, api.Word{n}, ofBig(new(big.Int).Add(order(), big.NewInt(int64(n)-18))))
	}
	for _, at := range []uint{32, 63, 64, 65, 127, 128, 252, 253, 254, 255} {
		for by := int64(-1); by <= 1; by++ {
			l = append(l, ofBig(new(big.Int).Add(new(big.Int).Lsh(big.NewInt(1), at), big.NewInt(by))))
		}
	}
	for _, word := range []uint64{0x8888888888888888, 0x7777777777777777, 0x8000000000000000, 0xaaaaaaaaaaaaaaaa, 0x8080808080808080} {
		l = append(l, api.Word{word, word, word, word}, api.Word{word})
	}
	for _, times := range []int64{2, 3, 5} {
		l = append(l, ofBig(new(big.Int).Mul(order(), big.NewInt(times))))
	}
	l = append(l, ofBig(prime()), ofBig(cofactor()))
	for range 30 {
		l = append(l, seed.number())
	}
	return l
}

// TestMul: P4.2, a point added n times, n of any 256 bits: on the twist outside of G2, too, where r does not count.
func TestMul(t *testing.T) {
	testMul(t, one())
	testMul(t, two())
}

func testMul[G comparable](t *testing.T, f face[G]) {
	s := source(750)
	for _, p := range append(f.draw(&s), f.infinity(), f.gen()) {
		doubles := f.spot(p).doubles()
		for _, n := range numbers(751) {
			if got, e := f.mul(p, n); got != f.of(chosen(doubles, toBig(n))) || e != api.OK {
				t.Fatal("Mul", f.name, p, n, got, e)
			}
		}
	}
}

// TestSum1: P4.2, the sum of a list, of none infinity.
func TestSum1(t *testing.T) {
	f := one()
	s := source(760)
	l := f.points(761)
	for _, none := range [][]api.G1{nil, {}} {
		if got, e := curve.Sum1(none); got != (api.G1{Inf: true}) || e != api.OK {
			t.Error("Sum1 of none", got, e)
		}
	}
	for n := range 60 {
		list, sum := make([]api.G1, n), nowhere()
		for i := range list {
			list[i] = l[s.word()%uint64(len(l))]
			sum = sum.plus(spot1(list[i]))
		}
		if got, e := curve.Sum1(list); got != sum.g1() || e != api.OK {
			t.Fatal("Sum1", list, got, e)
		}
	}
	two := []api.G1{curve.Gen1(), curve.Gen1()}
	if got, e := curve.Sum1(two); got != spot1(curve.Gen1()).times(big.NewInt(2)).g1() || e != api.OK {
		t.Error("Sum1 of one point twice", got, e)
	}
	if got, e := curve.Sum1([]api.G1{l[1], spot1(l[1]).negative().g1()}); got != (api.G1{Inf: true}) || e != api.OK {
		t.Error("Sum1 of opposites", got, e)
	}
}

// TestMulti: P4.2, sums of multiples of few points and of many, of any points and of any numbers.
func TestMulti(t *testing.T) {
	testMulti(t, one(), []int{0, 1, 2, 3, 5, 16, 31, 32, 33, 63, 64, 100})
	testMulti(t, two(), []int{0, 1, 2, 3, 16, 31, 32, 33, 64})
}

func testMulti[G comparable](t *testing.T, f face[G], sizes []int) {
	s := source(770)
	points, some := f.points(771), numbers(772)
	for _, size := range sizes {
		for round := range 2 {
			l, n, sum := make([]G, size), make([]api.Word, size), nowhere()
			for i := range l {
				// At first all of them, then a few, so that many come together.
				few := uint64(len(points))
				if round == 1 {
					few = 3
				}
				l[i], n[i] = points[s.word()%few], some[s.word()%uint64(len(some))]
				sum = sum.plus(f.spot(l[i]).times(toBig(n[i])))
			}
			if got, e := f.multi(l, n); got != f.of(sum) || e != api.OK {
				t.Fatal("Multi", f.name, l, n, got, e)
			}
		}
	}
	if got, e := f.multi(nil, []api.Word{}); got != f.infinity() || e != api.OK {
		t.Error("Multi of none", f.name, got, e)
	}
}

// TestMultiOfMany: P4.2, at each order of size, by the points' own logarithms.
func TestMultiOfMany(t *testing.T) {
	testMultiOfMany(t, one(), []int{31, 32, 50, 64, 127, 128, 255, 256, 511, 512, 1000, 1024, 2047, 2048, 4096, 8192})
	testMultiOfMany(t, two(), []int{31, 32, 50, 127, 128, 256, 700})
}

func testMultiOfMany[G comparable](t *testing.T, f face[G], sizes []int) {
	s := source(780)
	g := f.spot(f.gen())
	p, points := nowhere(), []G{}
	for range slices.Max(sizes) {
		points = append(points, f.of(p))
		p = p.plus(g)
	}
	for _, size := range sizes {
		n, sum := make([]api.Word, size), new(big.Int)
		for i := range n {
			n[i] = s.number()
			sum.Add(sum, new(big.Int).Mul(toBig(n[i]), big.NewInt(int64(i))))
		}
		if got, e := f.multi(points[:size], n); got != f.of(g.times(sum.Mod(sum, order()))) || e != api.OK {
			t.Fatal("Multi of", size, f.name, got, e)
		}
	}
}

// TestMultiTogether: P4.2, lists in which all fall together: one point, opposites, one number, sums that are infinity.
func TestMultiTogether(t *testing.T) {
	testMultiTogether(t, one())
	testMultiTogether(t, two())
}

func testMultiTogether[G comparable](t *testing.T, f face[G]) {
	all := api.Word{most, most, most, most}
	g := f.spot(f.gen())
	opposite := f.of(g.negative())
	for _, size := range []int{2, 8, 30, 40, 64} {
		for _, n := range []api.Word{{}, {1}, {2}, {8}, {9}, {1 << 63}, all, ofBig(order())} {
			want := f.of(g.times(new(big.Int).Mul(toBig(n), big.NewInt(int64(size)))))
			if got, e := f.multi(filled(size, f.gen()), filled(size, n)); got != want || e != api.OK {
				t.Error("Multi of one point", f.name, size, n, got, e)
			}
			l := filled(size, f.gen())
			for i := range l {
				if i%2 == 1 {
					l[i] = opposite
				}
			}
			if got, e := f.multi(l, filled(size, n)); got != f.infinity() || e != api.OK {
				t.Error("Multi of opposites", f.name, size, n, got, e)
			}
			if got, e := f.multi(filled(size, f.infinity()), filled(size, n)); got != f.infinity() || e != api.OK {
				t.Error("Multi of infinity", f.name, size, n, got, e)
			}
		}
	}
}
