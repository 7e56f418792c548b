package kzg_test

import (
	"math/big"
	"slices"
	"testing"

	"causeway/api"
	"causeway/curve"
	"causeway/kzg"
	"causeway/limbs"
	"causeway/tower"
)

const most = 1<<64 - 1

// digits is the number of decimal digits.
func digits(s string) *big.Int {
	n, _ := new(big.Int).SetString(s, 10)
	return n
}

// order is r and prime is p, from the document's digits.
func order() *big.Int {
	return digits("21888242871839275222246405745257275088548364400416034343698204186575808495617")
}

func prime() *big.Int {
	return digits("21888242871839275222246405745257275088696311157297823662689037894645226208583")
}

// number is an element by another program's means; element leads back, modulo r, from below 0, too.
func number(a [4]uint64) *big.Int { return new(big.Int).SetBytes(limbs.Bytes(a)) }

func element(n *big.Int) api.Fe { return plain(new(big.Int).Mod(n, order())) }

// plain is a number of 256 bits as it stands, below r or not.
func plain(n *big.Int) api.Fe {
	a, _ := limbs.Read(n.FillBytes(make([]byte, 32)))
	return api.Fe(a)
}

// whole is a small number's element, and list are some.
func whole(n int64) api.Fe { return element(big.NewInt(n)) }

func list(l ...int64) []api.Fe {
	var out []api.Fe
	for _, n := range l {
		out = append(out, whole(n))
	}
	return out
}

// above are numbers that are not below r.
func above() []api.Fe {
	return []api.Fe{
		plain(order()), plain(order().Add(order(), big.NewInt(1))), plain(prime()),
		{0, 0, 0, 0x3064_4e72_e131_a02a}, {0, 0, 0, 1 << 63}, {most, most, most, most},
	}
}

// plus, minus, times and over reckon modulo r.
func plus(l ...api.Fe) api.Fe {
	sum := new(big.Int)
	for _, a := range l {
		sum.Add(sum, number(a))
	}
	return element(sum)
}

func minus(a, b api.Fe) api.Fe { return element(new(big.Int).Sub(number(a), number(b))) }

func times(l ...api.Fe) api.Fe {
	all := big.NewInt(1)
	for _, a := range l {
		all.Mul(all, number(a)).Mod(all, order())
	}
	return element(all)
}

func over(a, b api.Fe) api.Fe {
	return times(a, element(new(big.Int).ModInverse(number(b), order())))
}

// raised is a to the n; to the 0 it is 1.
func raised(a api.Fe, n int) api.Fe {
	return element(new(big.Int).Exp(number(a), big.NewInt(int64(n)), order()))
}

// mixed is the sum over i of by^i times the i-th of the list.
func mixed(l []api.Fe, by api.Fe) api.Fe {
	var sum api.Fe
	for i, a := range l {
		sum = plus(sum, times(a, raised(by, i)))
	}
	return sum
}

// long is the quotient of a by X - at and the rest, by the schoolbook's division from the highest place down.
func long(a []api.Fe, at api.Fe) ([]api.Fe, api.Fe) {
	quotient := make([]api.Fe, len(a))
	var rest api.Fe
	for i := len(a) - 1; i >= 0; i-- {
		quotient[i] = rest
		rest = plus(a[i], times(rest, at))
	}
	return quotient, rest
}

// source draws numbers by xorshift: the same ones in each run.
type source uint64

func (s *source) word() uint64 {
	x := uint64(*s)
	x ^= x << 13
	x ^= x >> 7
	x ^= x << 17
	*s = source(x)
	return x
}

// wide draws an element of all evenly, hardly ever 0.
func (s *source) wide() api.Fe {
	return element(number(api.Fe{s.word(), s.word(), s.word(), s.word()}))
}

// element draws one; 0, 1 and -1 are among many.
func (s *source) element() api.Fe {
	switch s.word() % 8 {
	case 0:
		return api.Fe{}
	case 1:
		return whole(1)
	case 2:
		return whole(-1)
	}
	return s.wide()
}

// list draws so many elements.
func (s *source) list(n int) []api.Fe {
	l := make([]api.Fe, n)
	for i := range l {
		l[i] = s.element()
	}
	return l
}

// of1 and of2 are the generators' multiples.
func of1(n api.Fe) api.G1 {
	p, _ := curve.Mul1(curve.Gen1(), api.Word(n))
	return p
}

func of2(n api.Fe) api.G2 {
	q, _ := curve.Mul2(curve.Gen2(), api.Word(n))
	return q
}

// setup is Setup's answer to what may be.
func setup(t *testing.T, tau api.Fe, degree int) kzg.SRS {
	t.Helper()
	s, e := kzg.Setup(tau, degree)
	if e != api.OK {
		t.Fatal("Setup", tau, degree, e)
	}
	return s
}

// logs is an SRS by its points' logarithms.
type logs struct {
	g      []api.Fe
	one, x api.Fe
}

// srs is what they are the logarithms of.
func (l logs) srs() kzg.SRS {
	s := kzg.SRS{One: of2(l.one), X: of2(l.x)}
	for _, n := range l.g {
		s.G = append(s.G, of1(n))
	}
	return s
}

// committed is the commitment's logarithm.
func (l logs) committed(a []api.Fe) api.Fe {
	var sum api.Fe
	for i, n := range a {
		if i < len(l.g) {
			sum = plus(sum, times(n, l.g[i]))
		}
	}
	return sum
}

// of is the SRS of a tau.
func of(tau api.Fe, degree int) logs {
	l := logs{one: whole(1), x: tau}
	for i := range degree + 1 {
		l.g = append(l.g, raised(tau, i))
	}
	return l
}

// scaled is one that is consistent, but not on the generators.
func scaled(tau api.Fe, degree int, first, one api.Fe) logs {
	l := logs{one: one, x: times(tau, one)}
	for i := range degree + 1 {
		l.g = append(l.g, times(first, raised(tau, i)))
	}
	return l
}

// various are SRS that may be, some of them of no tau.
func (s *source) various() []logs {
	wild := logs{g: append([]api.Fe{s.wide()}, s.list(6)...), one: s.wide(), x: s.wide()}
	return []logs{
		of(s.wide(), 5), of(whole(2), 1), of(whole(1), 3), of(whole(-1), 4),
		scaled(s.wide(), 4, s.wide(), s.wide()),
		{g: []api.Fe{whole(1), {}, {}}, one: whole(1)}, // of tau 0
		wild,
	}
}

// stated is a claim by its logarithms.
type stated struct{ c, at, value, w api.Fe }

// claim is what they are the logarithms of.
func (c stated) claim() kzg.Claim {
	return kzg.Claim{C: of1(c.c), At: c.at, Value: c.value, W: of1(c.w)}
}

// off is how far the claim is from holding: the logarithm of e(C - Value G[0], One) / e(W, X - At One).
func (l logs) off(c stated) api.Fe {
	left := times(minus(c.c, times(c.value, l.g[0])), l.one)
	return minus(left, times(c.w, minus(l.x, times(c.at, l.one))))
}

// offAll is that of many, the i-th times by^i.
func (l logs) offAll(all []stated, by api.Fe) api.Fe {
	var off []api.Fe
	for _, c := range all {
		off = append(off, l.off(c))
	}
	return mixed(off, by)
}

// good draws a claim that holds: w is reckoned from the others.
func (l logs) good(s *source) stated {
	c := stated{c: s.wide(), at: s.wide(), value: s.element()}
	c.w = over(times(minus(c.c, times(c.value, l.g[0])), l.one), minus(l.x, times(c.at, l.one)))
	return c
}

// claims are the points of all.
func claims(all []stated) []kzg.Claim {
	var l []kzg.Claim
	for _, c := range all {
		l = append(l, c.claim())
	}
	return l
}

// refused is a point that may not be, and its error.
type refused[G any] struct {
	point G
	wrong api.Errno
}

// bad1 are points of no curve, whatever else is wrong with them.
func bad1() []refused[api.G1] {
	g := curve.Gen1()
	l := []refused[api.G1]{
		{api.G1{}, api.ErrCurve},
		{api.G1{X: whole(1), Y: whole(3)}, api.ErrCurve},
		{api.G1{X: whole(4), Y: whole(2)}, api.ErrCurve},
		{api.G1{X: g.X, Y: g.Y, Inf: true}, api.ErrFlag},
		{api.G1{Y: whole(1), Inf: true}, api.ErrFlag},
	}
	for _, a := range []api.Fe{plain(prime()), {most, most, most, most}} {
		l = append(l, refused[api.G1]{api.G1{X: a, Y: g.Y}, api.ErrElement}, refused[api.G1]{api.G1{X: g.X, Y: a}, api.ErrElement})
		l = append(l, refused[api.G1]{api.G1{X: a, Inf: true}, api.ErrFlag})
	}
	return l
}

// outside is a point of the twist that is not in G2.
func outside() api.G2 {
	inverse, _ := tower.Inv2(api.E2{A: whole(9), B: whole(1)})
	constant := tower.Mul2(inverse, api.E2{A: whole(3)})
	for n := int64(1); ; n++ {
		x := api.E2{A: whole(n), B: whole(1)}
		y, e := tower.Sqrt2(tower.Add2(tower.Mul2(tower.Mul2(x, x), x), constant))
		if q := (api.G2{X: x, Y: y}); e == api.OK && !curve.In2(q) {
			return q
		}
	}
}

// bad2 are likewise points of no twist, and one that is not in G2.
func bad2() []refused[api.G2] {
	g := curve.Gen2()
	l := []refused[api.G2]{
		{api.G2{}, api.ErrCurve},
		{api.G2{X: g.Y, Y: g.X}, api.ErrCurve},
		{api.G2{X: g.X, Y: g.Y, Inf: true}, api.ErrFlag},
		{api.G2{Y: api.E2{B: whole(1)}, Inf: true}, api.ErrFlag},
		{outside(), api.ErrGroup},
	}
	for i := range 4 {
		q := g
		*[]*api.Fe{&q.X.A, &q.X.B, &q.Y.A, &q.Y.B}[i] = plain(prime())
		l = append(l, refused[api.G2]{q, api.ErrElement})
	}
	return l
}

// same: are two SRS the same, point by point?
func same(a, b kzg.SRS) bool {
	return slices.Equal(a.G, b.G) && a.One == b.One && a.X == b.X
}
