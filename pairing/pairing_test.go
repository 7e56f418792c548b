package pairing_test

import (
	"math/big"
	"slices"
	"testing"

	"causeway/api"
	"causeway/curve"
	"causeway/field"
	"causeway/limbs"
	"causeway/pairing"
	"causeway/tower"
)

// TestExamples: the chapter's.
func TestExamples(t *testing.T) {
	want, _ := limbs.Parse("8493334370784016972005089913588211327688223499729897951716206968320726508021")
	if got := pair(t, curve.Gen1(), curve.Gen2()); got.A.A.A != api.Fe(want) {
		t.Error("Pair of the generators", got)
	}
	if got := pair(t, infinity1(), curve.Gen2()); got != tower.One12() {
		t.Error("Pair of infinity", got)
	}
	mustRefuse(t, []api.G1{{X: field.Of(1), Y: field.Of(3)}}, []api.G2{curve.Gen2()}, api.ErrCurve)
	p, q := []api.G1{curve.Gen1(), minus1(curve.Gen1())}, []api.G2{curve.Gen2(), curve.Gen2()}
	if is, e := pairing.Check(p, q); !is || e != api.OK {
		t.Error("Check", is, e)
	}
}

// TestPair: P6.1, the pairing by the chapter's words.
func TestPair(t *testing.T) {
	s := source(11)
	one := []api.G1{infinity1(), of1(1), of1(-1), of1(2), of1(-3), s.one(), s.one(), s.one()}
	two := []api.G2{infinity2(), of2(1), of2(-1), of2(2), of2(-3), s.two(), s.two(), s.two()}
	check := func(p api.G1, q api.G2) {
		t.Helper()
		if got := pair(t, p, q); got != paired(p, q) {
			t.Error("Pair", p, q, got)
		}
	}
	for i, p := range one {
		check(p, two[i])
		check(p, two[(3*i+1)%len(two)])
		check(p, two[(5*i+2)%len(two)])
	}
	// X is -1.
	root, e := field.Sqrt(api.FieldP, field.Of(2))
	if e != api.OK {
		t.Fatal("2 is no square", e)
	}
	check(api.G1{X: rest(big.NewInt(-1)), Y: root}, of2(5))
}

// TestInfinity: P6.1, one, if one of both is infinity.
func TestInfinity(t *testing.T) {
	for _, q := range []api.G2{infinity2(), curve.Gen2(), of2(-7)} {
		if got := pair(t, infinity1(), q); got != tower.One12() {
			t.Error("Pair of infinity", q, got)
		}
	}
	for _, p := range []api.G1{curve.Gen1(), of1(-7)} {
		if got := pair(t, p, infinity2()); got != tower.One12() {
			t.Error("Pair with infinity", p, got)
		}
	}
}

// TestRefused: P6.1 and P4 of DOC.md, the errors of points' checks, p's ahead of q's; infinity on the other side is no excuse.
func TestRefused(t *testing.T) {
	for _, p := range bad1() {
		for _, q := range []api.G2{curve.Gen2(), infinity2(), bad2()[0].point, bad2()[3].point, bad2()[5].point} {
			mustRefuse(t, []api.G1{p.point}, []api.G2{q}, p.wrong)
		}
	}
	for _, q := range bad2() {
		for _, p := range []api.G1{curve.Gen1(), of1(-4), infinity1()} {
			mustRefuse(t, []api.G1{p}, []api.G2{q.point}, q.wrong)
		}
	}
}

// TestProduct: P6.1, the product of all pairings, of none one.
func TestProduct(t *testing.T) {
	s := source(12)
	p := []api.G1{of1(1), infinity1(), s.one(), of1(2), of1(1), s.one(), infinity1(), of1(-1)}
	q := []api.G2{of2(1), of2(4), of2(-2), infinity2(), of2(1), s.two(), infinity2(), s.two()}
	want := tower.One12()
	for i := range len(p) + 1 {
		got, e := pairing.Product(p[:i], q[:i])
		if got != want || e != api.OK {
			t.Error("Product", i, got, e)
		}
		is, e := pairing.Check(p[:i], q[:i])
		if is != (i == 0) || e != api.OK {
			t.Error("Check", i, is, e)
		}
		if i < len(p) {
			want = tower.Mul12(want, paired(p[i], q[i]))
		}
	}
	for _, none := range [][]api.G1{nil, {}} {
		for _, other := range [][]api.G2{nil, {}} {
			got, e := pairing.Product(none, other)
			is, again := pairing.Check(none, other)
			if got != tower.One12() || !is || e != api.OK || again != api.OK {
				t.Error("Product of none", got, e, is, again)
			}
		}
	}
}

// TestCounts: P6.1, ErrCount of unlike many and of more than 256, ahead of all points' errors; 256 are not too many.
func TestCounts(t *testing.T) {
	p, q := slices.Repeat([]api.G1{curve.Gen1(), minus1(curve.Gen1())}, 129), slices.Repeat([]api.G2{curve.Gen2()}, 258)
	for _, n := range [][2]int{{0, 1}, {1, 0}, {1, 2}, {2, 1}, {256, 255}, {255, 256}, {256, 257}, {257, 256}, {257, 257}, {258, 258}} {
		mustRefuse(t, p[:n[0]], q[:n[1]], api.ErrCount)
		mustRefuse(t, make([]api.G1, n[0]), q[:n[1]], api.ErrCount)
		mustRefuse(t, p[:n[0]], make([]api.G2, n[1]), api.ErrCount)
	}
	mustRefuse(t, make([]api.G1, 1<<20), make([]api.G2, 1<<20), api.ErrCount)
	if is, e := pairing.Check(p[:256], q[:256]); !is || e != api.OK {
		t.Error("Check of 256", is, e)
	}
	want := pair(t, curve.Gen1(), curve.Gen2())
	if got, e := pairing.Product(p[:255], q[:255]); got != want || e != api.OK {
		t.Error("Product of 255", got, e)
	}
	mustRefuse(t, append(p[:255:255], api.G1{}), q[:256], api.ErrCurve)
}

// TestPlaceByPlace: P6.1, the first point's error, p and q of a place, place by place.
func TestPlaceByPlace(t *testing.T) {
	g, h := curve.Gen1(), curve.Gen2()
	flag, element, wrong := bad1()[3].point, api.G1{X: above()[0], Y: g.Y}, api.G1{}
	group := bad2()[5].point
	for _, c := range []struct {
		p    []api.G1
		q    []api.G2
		want api.Errno
	}{
		{[]api.G1{g, g, wrong}, []api.G2{h, h, h}, api.ErrCurve},
		{[]api.G1{g, wrong, flag}, []api.G2{h, h, h}, api.ErrCurve},
		{[]api.G1{g, flag, wrong}, []api.G2{h, h, h}, api.ErrFlag},
		{[]api.G1{g, wrong}, []api.G2{group, h}, api.ErrGroup},
		{[]api.G1{infinity1(), wrong}, []api.G2{group, h}, api.ErrGroup},
		{[]api.G1{g, wrong}, []api.G2{h, group}, api.ErrCurve},
		{[]api.G1{wrong, element}, []api.G2{group, h}, api.ErrCurve},
		{[]api.G1{element, flag}, []api.G2{group, group}, api.ErrElement},
		{[]api.G1{g, g, element}, []api.G2{infinity2(), group, h}, api.ErrGroup},
		{[]api.G1{g, g, flag}, []api.G2{infinity2(), h, group}, api.ErrFlag},
	} {
		mustRefuse(t, c.p, c.q, c.want)
	}
}

// TestCheck: P6.1, is the product one?
func TestCheck(t *testing.T) {
	for _, c := range []struct {
		p    []int64
		q    []int64
		want bool
	}{
		{[]int64{1}, []int64{1}, false},
		{[]int64{0}, []int64{1}, true},
		{[]int64{1}, []int64{0}, true},
		{[]int64{1, 1}, []int64{1, 1}, false},
		{[]int64{1, -1}, []int64{1, 1}, true},
		{[]int64{1, 1}, []int64{-1, 1}, true},
		{[]int64{-1, 1}, []int64{-1, 1}, false},
		{[]int64{2, 3, -1}, []int64{3, 5, 21}, true},
		{[]int64{2, 3, -1}, []int64{3, 5, 22}, false},
		{[]int64{2, 3, 1}, []int64{3, 5, 21}, false},
		{[]int64{4, -2, 0, 7}, []int64{9, 18, 5, 0}, true},
	} {
		var p []api.G1
		var q []api.G2
		for i := range c.p {
			p, q = append(p, of1(c.p[i])), append(q, of2(c.q[i]))
		}
		if is, e := pairing.Check(p, q); is != c.want || e != api.OK {
			t.Error("Check", c, is, e)
		}
	}
}
