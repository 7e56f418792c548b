package pairing_test

import (
	"math/big"
	"testing"

	"causeway/api"
	"causeway/curve"
	"causeway/limbs"
	"causeway/pairing"
	"causeway/tower"
)

const most = 1<<64 - 1

// digits is the number of decimal digits.
func digits(s string) *big.Int {
	n, _ := new(big.Int).SetString(s, 10)
	return n
}

// prime is p and order is r, from the document's digits.
func prime() *big.Int {
	return digits("21888242871839275222246405745257275088696311157297823662689037894645226208583")
}

func order() *big.Int {
	return digits("21888242871839275222246405745257275088548364400416034343698204186575808495617")
}

// number is a word by another program's means; word leads back, of numbers of 256 bits or fewer.
func number(a [4]uint64) *big.Int { return new(big.Int).SetBytes(limbs.Bytes(a)) }

func word(n *big.Int) api.Word {
	a, _ := limbs.Read(n.FillBytes(make([]byte, 32)))
	return a
}

// rest is the number modulo p; of one below 0, too.
func rest(n *big.Int) api.Fe { return api.Fe(word(new(big.Int).Mod(n, prime()))) }

// above are numbers that are not below p.
func above() []api.Fe {
	return []api.Fe{
		api.Fe(word(prime())), api.Fe(word(prime().Add(prime(), big.NewInt(1)))),
		{0, 0, 0, 0x3064_4e72_e131_a02a}, {0, 0, 0, 1 << 63}, {most, most, most, most},
	}
}

// parts are an element's twelve, A.A.A first.
func parts(a *api.E12) [12]*api.Fe {
	return [12]*api.Fe{
		&a.A.A.A, &a.A.A.B, &a.A.B.A, &a.A.B.B, &a.A.C.A, &a.A.C.B,
		&a.B.A.A, &a.B.A.B, &a.B.B.A, &a.B.B.B, &a.B.C.A, &a.B.C.B,
	}
}

// source draws numbers by xorshift: the same ones in each run.
type source uint64

func (s *source) word() uint64 {
	x := uint64(*s)
	x ^= x << 13
	x ^= x >> 7
	x ^= x << 17
	*s = source(x)
	return x
}

// number draws 256 bits.
func (s *source) number() api.Word { return api.Word{s.word(), s.word(), s.word(), s.word()} }

// element draws one of Fp12, a third of its parts 0.
func (s *source) element() api.E12 {
	var a api.E12
	for _, x := range parts(&a) {
		if s.word()%3 > 0 {
			*x = rest(number(s.number()))
		}
	}
	return a
}

// one draws a point of G1 by its X, and two one of G2.
func (s *source) one() api.G1 {
	for {
		x := number(s.number())
		square := new(big.Int).Exp(x, big.NewInt(3), prime())
		y := new(big.Int).ModSqrt(square.Add(square, big.NewInt(3)).Mod(square, prime()), prime())
		if y != nil {
			return api.G1{X: rest(x), Y: rest(y)}
		}
	}
}

func (s *source) two() api.G2 { return times2(curve.Gen2(), s.number()) }

// twist draws a point of the twist, which is hardly ever in G2.
func (s *source) twist() api.G2 {
	inverse, _ := tower.Inv2(api.E2{A: api.Fe{9}, B: api.Fe{1}})
	constant := tower.Mul2(inverse, api.E2{A: api.Fe{3}})
	for {
		x := api.E2{A: rest(number(s.number())), B: rest(number(s.number()))}
		y, e := tower.Sqrt2(tower.Add2(tower.Mul2(tower.Mul2(x, x), x), constant))
		if e == api.OK {
			return api.G2{X: x, Y: y}
		}
	}
}

// of1 and of2 are small multiples of the generators, below 0 too.
func of1(n int64) api.G1 {
	return times1(curve.Gen1(), word(new(big.Int).Mod(big.NewInt(n), order())))
}

func of2(n int64) api.G2 {
	return times2(curve.Gen2(), word(new(big.Int).Mod(big.NewInt(n), order())))
}

// times1 and the next ones are curve's calls, of points that may be.
func times1(p api.G1, n api.Word) api.G1 {
	p, _ = curve.Mul1(p, n)
	return p
}

func times2(q api.G2, n api.Word) api.G2 {
	q, _ = curve.Mul2(q, n)
	return q
}

func sum1(p, q api.G1) api.G1 {
	p, _ = curve.Add1(p, q)
	return p
}

func sum2(p, q api.G2) api.G2 {
	p, _ = curve.Add2(p, q)
	return p
}

func minus1(p api.G1) api.G1 {
	p, _ = curve.Neg1(p)
	return p
}

func minus2(q api.G2) api.G2 {
	q, _ = curve.Neg2(q)
	return q
}

// infinity1 and infinity2 are the groups'.
func infinity1() api.G1 { return api.G1{Inf: true} }
func infinity2() api.G2 { return api.G2{Inf: true} }

// refused is a point that may not be, and its error.
type refused[G any] struct {
	point G
	wrong api.Errno
}

// bad1 are points of no curve, whatever else is wrong with them.
func bad1() []refused[api.G1] {
	g := curve.Gen1()
	l := []refused[api.G1]{
		{api.G1{}, api.ErrCurve},
		{api.G1{X: api.Fe{1}, Y: api.Fe{3}}, api.ErrCurve},
		{api.G1{X: api.Fe{4}, Y: api.Fe{2}}, api.ErrCurve},
		{api.G1{X: g.X, Y: g.Y, Inf: true}, api.ErrFlag},
		{api.G1{Y: api.Fe{1}, Inf: true}, api.ErrFlag},
	}
	for _, a := range above() {
		l = append(l, refused[api.G1]{api.G1{X: a, Y: g.Y}, api.ErrElement}, refused[api.G1]{api.G1{X: g.X, Y: a}, api.ErrElement})
		l = append(l, refused[api.G1]{api.G1{X: a, Inf: true}, api.ErrFlag})
	}
	more := number(g.X)
	return append(l, refused[api.G1]{api.G1{X: api.Fe(word(more.Add(more, prime()))), Y: g.Y}, api.ErrElement})
}

// bad2 are likewise points of no twist, and points of the twist that are not in G2.
func bad2() []refused[api.G2] {
	s := source(77)
	g := curve.Gen2()
	l := []refused[api.G2]{
		{api.G2{}, api.ErrCurve},
		{api.G2{X: g.Y, Y: g.X}, api.ErrCurve},
		{api.G2{X: g.X, Y: tower.Conj2(g.Y)}, api.ErrCurve},
		{api.G2{X: g.X, Y: g.Y, Inf: true}, api.ErrFlag},
		{api.G2{Y: api.E2{B: api.Fe{1}}, Inf: true}, api.ErrFlag},
	}
	for range 4 {
		q := s.twist()
		l = append(l, refused[api.G2]{q, api.ErrGroup}, refused[api.G2]{minus2(q), api.ErrGroup})
		// No point of order r, for all are in G2.
		l = append(l, refused[api.G2]{times2(q, curve.Order()), api.ErrGroup})
	}
	for _, a := range above() {
		for i := range 4 {
			q := g
			*[]*api.Fe{&q.X.A, &q.X.B, &q.Y.A, &q.Y.B}[i] = a
			l = append(l, refused[api.G2]{q, api.ErrElement})
			q.Inf = true
			l = append(l, refused[api.G2]{q, api.ErrFlag})
		}
	}
	return l
}

// pair is Pair's answer to points that may be.
func pair(t *testing.T, p api.G1, q api.G2) api.E12 {
	t.Helper()
	a, e := pairing.Pair(p, q)
	if e != api.OK {
		t.Fatal("Pair", p, q, e)
	}
	return a
}

// mustRefuse tells whether all three calls refuse the points so, and answer nothing beside it.
func mustRefuse(t *testing.T, p []api.G1, q []api.G2, wrong api.Errno) {
	t.Helper()
	if got, e := pairing.Product(p, q); got != (api.E12{}) || e != wrong {
		t.Error("Product", p, q, got, e, wrong)
	}
	if is, e := pairing.Check(p, q); is || e != wrong {
		t.Error("Check", p, q, is, e, wrong)
	}
	if len(p) != 1 || len(q) != 1 {
		return
	}
	if got, e := pairing.Pair(p[0], q[0]); got != (api.E12{}) || e != wrong {
		t.Error("Pair", p, q, got, e, wrong)
	}
}
