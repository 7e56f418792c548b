package jubjub_test

import (
	"bytes"
	"math/big"
	"testing"

	"causeway/api"
	"causeway/jubjub"
)

// TestWords: the chapter's Words, the base point, the order and the neutral point, from the document's digits, and what it says of them.
func TestWords(t *testing.T) {
	mustBe(t, "Base", jubjub.Base(), api.OK, base())
	mustBe(t, "Neutral", jubjub.Neutral(), api.OK, neutral())
	if got := jubjub.Order(); got != word(order()) || !order().ProbablyPrime(20) {
		t.Error("Order", got)
	}
	if !base().solves() || !base().times(order()).is(neutral()) || jubjub.Check(jubjub.Base()) != api.OK {
		t.Error("the base point's order")
	}
	if len(small()) != cofactor {
		t.Error("the curve's order")
	}
	if jubjub.Neutral() != (api.Ed{Y: api.Fe{1}}) {
		t.Error("Neutral", jubjub.Neutral())
	}
}

// TestExamples: the chapter's examples.
func TestExamples(t *testing.T) {
	minus := element(new(big.Int).Sub(modulus(), whole(1)))
	if e := jubjub.Check(api.Ed{Y: minus}); e != api.ErrPoint {
		t.Error("Check of (0, -1)", e)
	}
	if got, e := jubjub.Add(api.Ed{Y: minus}, api.Ed{Y: minus}); got != jubjub.Neutral() || e != api.OK {
		t.Error("twice (0, -1)", got, e)
	}
	if jubjub.On(api.Ed{X: api.Fe{1}, Y: api.Fe{1}}) {
		t.Error("On of (1, 1)")
	}
}

// TestPublished: P11.2, twice the base point, and the generator of the whole curve, 8 times which it is, as ERC-2494 tells it.
func TestPublished(t *testing.T) {
	g := spot{
		digits("995203441582195749578291179787384436505546430278305826713579947235728471134"),
		digits("5472060717959818805561601436314318772137091100104008585924551046643952123905"),
	}
	if e := jubjub.Check(g.ed()); !jubjub.On(g.ed()) || e != api.ErrPoint {
		t.Error("the generator", e)
	}
	got, e := jubjub.Mul(g.ed(), api.Word{8})
	mustBe(t, "8 times the generator", got, e, base())
	for _, n := range []int64{4, 2, 1} {
		if got, e := jubjub.Mul(g.ed(), word(new(big.Int).Mul(order(), whole(n)))); e != api.OK || got == jubjub.Neutral() {
			t.Error("the generator's order", n, got, e)
		}
	}
	double := spot{
		digits("10031262171927540148667355526369034398030886437092045105752248699557385197826"),
		digits("633281375905621697187330766174974863687049529291089048651929454608812697683"),
	}
	got, e = jubjub.Add(jubjub.Base(), jubjub.Base())
	mustBe(t, "twice the base point", got, e, double)
}

// TestOn: P11.1, points of the curve, and each with another X or Y.
func TestOn(t *testing.T) {
	for _, p := range onCurve(101) {
		if !p.solves() {
			t.Fatal("the test's own point", p)
		}
		if !jubjub.On(p.ed()) {
			t.Error("On", p)
		}
		for i := range 4 {
			near := p.ed()
			if i%2 == 0 {
				near.X = element(mod(new(big.Int).Add(p.x, whole(int64(i-1)))))
			} else {
				near.Y = element(mod(new(big.Int).Add(p.y, whole(int64(i-2)))))
			}
			if jubjub.On(near) != spotOf(near).solves() {
				t.Error("On of what is near", near)
			}
		}
		// The same point modulo r.
		for _, far := range []spot{{new(big.Int).Add(p.x, modulus()), p.y}, {p.x, new(big.Int).Add(p.y, modulus())}} {
			if jubjub.On(far.ed()) {
				t.Error("On of what is not below r", far)
			}
		}
	}
	for _, p := range offCurve() {
		if jubjub.On(p) {
			t.Error("On", p)
		}
	}
}

// TestOnAnother: P11.1, points of the curve with a and d changed for each other, and of the one with 1 for a.
func TestOnAnother(t *testing.T) {
	s := source(102)
	for range 20 {
		p := s.spot()
		if p.x.Sign() == 0 || p.y.Sign() == 0 {
			continue
		}
		inverse := over(whole(1), p.y)
		for _, q := range []spot{{p.x, inverse}, {over(whole(1), p.x), p.y}, {product(whole(2), p.x), p.y}} {
			if jubjub.On(q.ed()) != q.solves() || q.solves() {
				t.Error("On", q)
			}
		}
	}
}

// TestCheck: P11.1, of points of the group, and of the curve alone.
func TestCheck(t *testing.T) {
	for _, p := range good(103) {
		if e := jubjub.Check(p.ed()); e != api.OK {
			t.Error("Check", p, e)
		}
	}
	for _, p := range outside(104) {
		if e := jubjub.Check(p.ed()); e != api.ErrPoint {
			t.Error("Check", p, e)
		}
	}
	s := source(105)
	for range 40 {
		p, want := s.spot(), api.ErrPoint
		if p.times(order()).is(neutral()) {
			want = api.OK
		}
		if e := jubjub.Check(p.ed()); e != want {
			t.Error("Check", p, e)
		}
	}
	for _, p := range offCurve() {
		if e := jubjub.Check(p); e != api.ErrCurve {
			t.Error("Check", p, e)
		}
	}
}

// TestAdd: P11.2, of all two points, of the group or not, of one point and itself and its opposite.
func TestAdd(t *testing.T) {
	l := onCurve(106)
	for _, p := range l {
		for _, q := range l {
			got, e := jubjub.Add(p.ed(), q.ed())
			mustBe(t, "Add", got, e, p.plus(q))
		}
		got, e := jubjub.Add(p.ed(), p.negative().ed())
		mustBe(t, "Add of its opposite", got, e, neutral())
	}
}

// TestNeg: P11.2, also of points whose X is 0.
func TestNeg(t *testing.T) {
	for _, p := range onCurve(107) {
		got, e := jubjub.Neg(p.ed())
		mustBe(t, "Neg", got, e, p.negative())
	}
	for _, p := range []spot{neutral(), {whole(0), mod(whole(-1))}} {
		got, e := jubjub.Neg(p.ed())
		mustBe(t, "Neg of X 0", got, e, p)
	}
}

// factors are numbers at the edges: small ones, near the powers of 2, near the order and its multiples, near r, the last ones.
func factors() []*big.Int {
	var l []*big.Int
	for n := range int64(40) {
		l = append(l, whole(n))
	}
	edges := []*big.Int{top(), modulus()}
	for i := int64(1); i <= cofactor; i++ {
		edges = append(edges, new(big.Int).Mul(order(), whole(i)))
	}
	for _, i := range []uint{63, 64, 65, 127, 128, 191, 192, 250, 251, 252, 253, 254, 255} {
		edges = append(edges, new(big.Int).Lsh(whole(1), i))
	}
	for _, n := range edges {
		for i := int64(-2); i <= 1; i++ {
			if m := new(big.Int).Add(n, whole(i)); m.BitLen() <= 256 {
				l = append(l, m)
			}
		}
	}
	return l
}

// TestMul: P11.2, by numbers of any size, of points of any order.
func TestMul(t *testing.T) {
	s := source(108)
	for i, p := range append(onCurve(109), base(), s.spot()) {
		l := []*big.Int{whole(0), whole(1), s.number(), s.number()}
		if i%30 == 0 {
			l = append(l, factors()...)
		}
		for _, n := range l {
			got, e := jubjub.Mul(p.ed(), word(n))
			mustBe(t, "Mul", got, e, p.times(n))
		}
	}
}

// TestBytes: P11.3, Y and which X, of points of the group.
func TestBytes(t *testing.T) {
	highs := 0
	for _, p := range good(110) {
		b, e := jubjub.Bytes(p.ed())
		if e != api.OK || !bytes.Equal(b, p.bytes()) {
			t.Error("Bytes", p, b, e)
		}
		if b[31] >= 128 {
			highs++
		}
	}
	if highs < 8 {
		t.Error("too few of a higher X", highs)
	}
	if b, _ := jubjub.Bytes(jubjub.Neutral()); !bytes.Equal(b, append([]byte{1}, make([]byte, 31)...)) {
		t.Error("Bytes of Neutral", b)
	}
}

// TestRead: P11.3, of all bytes what the chapter's words say.
func TestRead(t *testing.T) {
	for _, p := range onCurve(111) {
		mustRead(t, p.bytes())
		mustRead(t, p.negative().bytes())
	}
	counts := map[api.Errno]int{}
	s := source(112)
	for range 100 {
		b := s.residue().FillBytes(make([]byte, size))
		b[31] = byte(s.word())
		counts[mustRead(t, b)]++
	}
	for y := range byte(60) {
		b := make([]byte, size)
		b[0] = y
		counts[mustRead(t, b)]++
		b[31] = 128
		counts[mustRead(t, b)]++
	}
	for _, e := range []api.Errno{api.OK, api.ErrElement, api.ErrCurve, api.ErrFlag, api.ErrPoint} {
		if counts[e] == 0 {
			t.Error("the test's bytes never lead to", e)
		}
	}
}

// mustRead tells whether Read answers what the reference does; and answers the error.
func mustRead(t *testing.T, b []byte) api.Errno {
	t.Helper()
	want, wrong := read(b)
	if got, e := jubjub.Read(b); got != want || e != wrong {
		t.Error("Read", b, got, e, "and not", want, wrong)
	}
	return wrong
}
