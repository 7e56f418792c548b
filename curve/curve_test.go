package curve_test

import (
	"math/big"
	"testing"

	"causeway/api"
	"causeway/curve"
)

// TestGenerators: the chapter's Words, the generators and the order, from the document's digits.
func TestGenerators(t *testing.T) {
	if got := curve.Gen1(); got != (api.G1{X: api.Fe{1}, Y: api.Fe{2}}) {
		t.Error("Gen1", got)
	}
	want := spot{
		wide{digits("10857046999023057135944570762232829481370756359578518086990519993285655852781"), digits("11559732032986387107991004021392285783925812861821192530917403151452391805634")},
		wide{digits("8495653923123431417604973247489272438418190587263600148770280649306958101930"), digits("4082367875863433681332203403145435568316851327593401208105741076214120093531")},
		false,
	}
	if got := curve.Gen2(); got != want.g2() {
		t.Error("Gen2", got)
	}
	if got := curve.Order(); toBig(got).Cmp(order()) != 0 {
		t.Error("Order", got)
	}
	if !spot1(curve.Gen1()).times(order()).inf || !spot2(curve.Gen2()).times(order()).inf {
		t.Error("the order of the generators")
	}
}

// TestExamples: the chapter's examples.
func TestExamples(t *testing.T) {
	p := api.G1{X: api.Fe{1}, Y: api.Fe{2}}
	want := api.G1{
		X: part(digits("1368015179489954701390400359078579693043519447331113978918064868415326638035")),
		Y: part(digits("9918110051302171585080402603319702774565515993150576347155970296011118125764")),
	}
	if got, e := curve.Add1(p, p); got != want || e != api.OK {
		t.Error("Add1", got, e)
	}
	if e := curve.On1(api.G1{X: api.Fe{1}, Y: api.Fe{3}}); e != api.ErrCurve {
		t.Error("On1", e)
	}
	if got, e := curve.Add1(p, api.G1{X: api.Fe{1}, Y: part(big.NewInt(-2))}); got != (api.G1{Inf: true}) || e != api.OK {
		t.Error("Add1 of opposites", got, e)
	}
	if got, e := curve.Mul1(p, ofBig(order())); got != (api.G1{Inf: true}) || e != api.OK {
		t.Error("Mul1 by the order", got, e)
	}
}

// TestOn: P4.1, what is on its curve, and what is near it.
func TestOn(t *testing.T) {
	testOn(t, one())
	testOn(t, two())
}

func testOn[G comparable](t *testing.T, f face[G]) {
	for _, p := range f.points(700) {
		if q := f.spot(p); !q.inf && !q.solves(f.constant) {
			t.Fatal("the test's own point", f.name, p)
		}
		if e := f.on(p); e != api.OK {
			t.Error("On", f.name, p, e)
		}
		if f.spot(p).inf {
			continue
		}
		for i := range f.parts(&p) {
			near := p
			x := f.parts(&near)[i]
			*x = part(new(big.Int).Sub(toBig(*x), big.NewInt(1)))
			if e := f.on(near); e != api.ErrCurve {
				t.Error("On of what is near", f.name, i, p, e)
			}
		}
		if e := f.on(f.flagged(p)); e != api.ErrFlag {
			t.Error("On of a point that says it is infinity", f.name, p, e)
		}
	}
	for name, bad := range f.bad() {
		if e := f.on(bad.point); e != bad.wrong {
			t.Error("On", f.name, name, e)
		}
	}
}

// TestOnAnother: P4.1, points of other curves: of the first one, seen over Fp2, and of y^2 = x^3 + 3 (9 + u).
func TestOnAnother(t *testing.T) {
	p := api.G2{X: api.E2{A: api.Fe{1}}, Y: api.E2{A: api.Fe{2}}}
	if e := curve.On2(p); e != api.ErrCurve || curve.In2(p) {
		t.Error("On2 of a point of the first curve", e)
	}
	s := source(710)
	for range 20 {
		// Stretched by z: y^2 = x^3 + z^6 times the constant.
		q, z := spot2(s.twist()), whole(int64(2+s.word()%1000), int64(1+s.word()%1000))
		square := z.times(z)
		if e := curve.On2(spot{q.x.times(square), q.y.times(square).times(z), false}.g2()); e != api.ErrCurve {
			t.Error("On2 of a stretched point", q, z, e)
		}
		r := spot1(s.one())
		z.b = new(big.Int)
		square = z.times(z)
		if e := curve.On1(spot{r.x.times(square), r.y.times(square).times(z), false}.g1()); e != api.ErrCurve {
			t.Error("On1 of a stretched point", r, z, e)
		}
	}
}

// call is a call of points alone, with what it answers: is there nothing beside the error, and the error.
type call[G comparable] struct {
	name string
	of   func(p, q G) (bool, api.Errno)
}

// calls are all calls of a curve; of two points where the name does not say otherwise.
func (f face[G]) calls() []call[G] {
	zero := func(p G, e api.Errno) (bool, api.Errno) {
		var none G
		return p == none, e
	}
	return []call[G]{
		{"Neg, one point", func(p, _ G) (bool, api.Errno) { return zero(f.neg(p)) }},
		{"Mul, one point", func(p, _ G) (bool, api.Errno) { return zero(f.mul(p, api.Word{5})) }},
		{"Mul by 0, one point", func(p, _ G) (bool, api.Errno) { return zero(f.mul(p, api.Word{})) }},
		{"Add", func(p, q G) (bool, api.Errno) { return zero(f.add(p, q)) }},
		{"Multi", func(p, q G) (bool, api.Errno) {
			return zero(f.multi([]G{f.gen(), p, f.gen(), q}, []api.Word{{1}, {2}, {3}, {4}}))
		}},
		{"Multi by 0", func(p, q G) (bool, api.Errno) { return zero(f.multi([]G{p, q}, []api.Word{{}, {}})) }},
		{"Multi of many", func(p, q G) (bool, api.Errno) {
			l := make([]G, 100)
			for i := range l {
				l[i] = f.gen()
			}
			l[40], l[99] = p, q
			return zero(f.multi(l, make([]api.Word, 100)))
		}},
	}
}

// TestRefused: P4.1 and P4 of DOC.md, all calls answer the error of their first point that may not be, and nothing beside it.
func TestRefused(t *testing.T) {
	f := one()
	sum := call[api.G1]{"Sum1", func(p, q api.G1) (bool, api.Errno) {
		s, e := curve.Sum1([]api.G1{f.gen(), p, q, f.gen()})
		return s == (api.G1{}), e
	}}
	testRefused(t, f, append(f.calls(), sum))
	g := two()
	psi := call[api.G2]{"Psi2, one point", func(p, _ api.G2) (bool, api.Errno) {
		q, e := curve.Psi2(p)
		return q == (api.G2{}), e
	}}
	testRefused(t, g, append(g.calls(), psi))
	for name, bad := range g.bad() {
		if curve.In2(bad.point) {
			t.Error("In2", name)
		}
	}
}

func testRefused[G comparable](t *testing.T, f face[G], calls []call[G]) {
	for name, bad := range f.bad() {
		for _, c := range calls {
			if none, e := c.of(bad.point, f.gen()); !none || e != bad.wrong {
				t.Error(c.name, f.name, name, none, e)
			}
			if len(c.name) > 9 && c.name[len(c.name)-9:] == "one point" {
				continue
			}
			if none, e := c.of(f.gen(), bad.point); !none || e != bad.wrong {
				t.Error(c.name, f.name, "second", name, none, e)
			}
			for other, worse := range f.bad() {
				if none, e := c.of(bad.point, worse.point); !none || e != bad.wrong {
					t.Error(c.name, f.name, name, "ahead of", other, none, e)
				}
			}
		}
	}
}

// filled is a list of n.
func filled[T any](n int, with T) []T {
	l := make([]T, n)
	for i := range l {
		l[i] = with
	}
	return l
}

// TestCounts: P4.2, P4.1 and P4 of DOC.md, ErrCount, ahead of the points' errors, and nothing beside it.
func TestCounts(t *testing.T) {
	testCounts(t, one())
	testCounts(t, two())
	for _, p := range []api.G1{curve.Gen1(), {}, {Inf: true}} {
		for _, n := range []int{65537, 70000} {
			if got, e := curve.Sum1(filled(n, p)); got != (api.G1{}) || e != api.ErrCount {
				t.Error("Sum1 of", n, p, got, e)
			}
		}
	}
}

func testCounts[G comparable](t *testing.T, f face[G]) {
	var none G
	for _, p := range []G{f.gen(), none, f.infinity()} {
		for _, n := range [][2]int{{0, 1}, {1, 0}, {2, 1}, {1, 2}, {40, 39}, {65536, 65535}, {65536, 65537}, {65537, 65536}, {65537, 65537}} {
			if got, e := f.multi(filled(n[0], p), filled(n[1], api.Word{})); got != none || e != api.ErrCount {
				t.Error("Multi of", n, f.name, p, got, e)
			}
		}
	}
}

// TestMost: P4.2, lists of 65536 are taken, to the last point.
func TestMost(t *testing.T) {
	testMost(t, one(), 16)
	testMost(t, two(), 256)
	l := filled(65536, curve.Gen1())
	if got, e := curve.Sum1(l); got != spot1(curve.Gen1()).times(big.NewInt(65536)).g1() || e != api.OK {
		t.Error("Sum1 of 65536", got, e)
	}
	l[65535] = api.G1{}
	if got, e := curve.Sum1(l); got != (api.G1{}) || e != api.ErrCurve {
		t.Error("Sum1, the last point not on the curve", got, e)
	}
}

// testMost takes each so many points a number of 256 bits, the others a number of 16.
func testMost[G comparable](t *testing.T, f face[G], each int) {
	s := source(720)
	g := f.spot(f.gen())
	multiples := make([]G, 64)
	for i := range multiples {
		multiples[i] = f.of(g.times(big.NewInt(int64(i))))
	}
	l, n, sum := make([]G, 65536), make([]api.Word, 65536), new(big.Int)
	for i := range l {
		at := int(s.word() % 64)
		l[i], n[i] = multiples[at], api.Word{s.word() % (1 << 16)}
		if i%each == each-1 {
			n[i] = s.number()
		}
		sum.Add(sum, new(big.Int).Mul(toBig(n[i]), big.NewInt(int64(at))))
	}
	if got, e := f.multi(l, n); got != f.of(g.times(sum.Mod(sum, order()))) || e != api.OK {
		t.Error("Multi of 65536", f.name, got, e)
	}
	var none G
	l[65535] = none
	if got, e := f.multi(l, n); got != none || e != api.ErrCurve {
		t.Error("Multi, the last point not on the curve", f.name, got, e)
	}
}
