package curve_test

import (
	"math/big"

	"causeway/api"
	"causeway/curve"
	"causeway/tower"
)

// source draws numbers by xorshift: the same ones in each run.
type source uint64

func (s *source) word() uint64 {
	x := uint64(*s)
	x ^= x << 13
	x ^= x >> 7
	x ^= x << 17
	*s = source(x)
	return x
}

// number draws 256 bits, of all evenly or of words that are often an end.
func (s *source) number() api.Word {
	a := api.Word{s.word(), s.word(), s.word(), s.word()}
	if s.word()%3 == 0 {
		return a
	}
	ends := []uint64{0, 0, 1, most, most - 1, 1 << 63, 0x8888888888888888, 0x7777777777777777, 0xf0f0f0f0f0f0f0f0}
	for i := range a {
		if s.word()%2 == 0 {
			a[i] = ends[s.word()%uint64(len(ends))]
		}
	}
	return a
}

// one draws a point of the first curve.
func (s *source) one() api.G1 {
	for {
		x := toBig(s.number())
		square := new(big.Int).Exp(x, big.NewInt(3), prime())
		y := new(big.Int).ModSqrt(square.Add(square, big.NewInt(3)).Mod(square, prime()), prime())
		if y != nil {
			return spot{wide{x, new(big.Int)}, wide{y, new(big.Int)}, false}.g1()
		}
	}
}

// twist draws a point of the twist, which is hardly ever in G2.
func (s *source) twist() api.G2 {
	for {
		x := wide{toBig(s.number()), toBig(s.number())}.mod()
		y, e := tower.Sqrt2(x.times(x).times(x).plus(twistConstant()).e2())
		if e == api.OK {
			return spot{x, ofE2(y), false}.g2()
		}
	}
}

// two draws a point of G2.
func (s *source) two() api.G2 { return spot2(s.twist()).times(cofactor()).g2() }

// small is a point of the twist whose order is 10069.
func (s *source) small() api.G2 {
	n := new(big.Int).Mul(cofactor(), order())
	for {
		if p := spot2(s.twist()).times(new(big.Int).Div(n, big.NewInt(10069))); !p.inf {
			return p.g2()
		}
	}
}

// face is one of the two curves: its calls, its points' ways to the reference and back, and some points.
type face[G comparable] struct {
	name     string
	gen      func() G
	on       func(p G) api.Errno
	neg      func(p G) (G, api.Errno)
	add      func(p, q G) (G, api.Errno)
	mul      func(p G, n api.Word) (G, api.Errno)
	multi    func(l []G, n []api.Word) (G, api.Errno)
	spot     func(p G) spot
	of       func(p spot) G
	constant wide
	parts    func(p *G) []*api.Fe
	flagged  func(p G) G // the same parts, and infinity
	draw     func(s *source) []G
}

// one and two are the two curves.
func one() face[api.G1] {
	return face[api.G1]{
		name: "1", gen: curve.Gen1, on: curve.On1, neg: curve.Neg1, add: curve.Add1, mul: curve.Mul1, multi: curve.Multi1,
		spot: spot1, of: spot.g1, constant: whole(3, 0),
		parts:   func(p *api.G1) []*api.Fe { return []*api.Fe{&p.X, &p.Y} },
		flagged: func(p api.G1) api.G1 { return api.G1{X: p.X, Y: p.Y, Inf: true} },
		draw:    func(s *source) []api.G1 { return []api.G1{s.one(), s.one(), s.one(), s.one()} },
	}
}

func two() face[api.G2] {
	return face[api.G2]{
		name: "2", gen: curve.Gen2, on: curve.On2, neg: curve.Neg2, add: curve.Add2, mul: curve.Mul2, multi: curve.Multi2,
		spot: spot2, of: spot.g2, constant: twistConstant(),
		parts:   func(p *api.G2) []*api.Fe { return []*api.Fe{&p.X.A, &p.X.B, &p.Y.A, &p.Y.B} },
		flagged: func(p api.G2) api.G2 { return api.G2{X: p.X, Y: p.Y, Inf: true} },
		draw:    func(s *source) []api.G2 { return []api.G2{s.twist(), s.twist(), s.two(), s.small()} },
	}
}

// infinity is the curve's.
func (f face[G]) infinity() G { return f.of(nowhere()) }

// points are infinity, small multiples of the generator and drawn points, each with its negative.
func (f face[G]) points(seed source) []G {
	l := []G{f.infinity()}
	g := f.spot(f.gen())
	for _, n := range []int64{1, 2, 3, 7, 8, 9} {
		l = append(l, f.of(g.times(big.NewInt(n))))
	}
	l = append(l, f.draw(&seed)...)
	for _, p := range l[1:] {
		l = append(l, f.of(f.spot(p).negative()))
	}
	return l
}

// bad are points that may not be, each with its error.
func (f face[G]) bad() map[string]refused[G] {
	out := map[string]refused[G]{}
	put := func(name string, p G, wrong api.Errno) { out[name] = refused[G]{p, wrong} }
	gen := f.gen()
	for i := range f.parts(&gen) {
		at := string(rune('0' + i))
		p := f.infinity()
		*f.parts(&p)[i] = api.Fe{1}
		put("a part of infinity is 1: "+at, p, api.ErrFlag)
		*f.parts(&p)[i] = api.Fe{most, most, most, most}
		put("a part of infinity is not below p: "+at, p, api.ErrFlag)
		// The same point modulo p.
		p = f.gen()
		x := f.parts(&p)[i]
		*x = ofBig(new(big.Int).Add(toBig(*x), prime()))
		put("a part and p: "+at, p, api.ErrElement)
		*x = ofBig(prime())
		put("a part is p: "+at, p, api.ErrElement)
		*x = api.Fe{most, most, most, most}
		put("a part is 2^256 - 1: "+at, p, api.ErrElement)
		p = f.gen()
		x = f.parts(&p)[i]
		*x = part(new(big.Int).Add(toBig(*x), big.NewInt(1)))
		put("a part and 1: "+at, p, api.ErrCurve)
		*x = part(big.NewInt(-1))
		put("a part is p - 1: "+at, p, api.ErrCurve)
	}
	var none G
	put("all 0", none, api.ErrCurve)
	put("the generator, and infinity", f.flagged(gen), api.ErrFlag)
	return out
}

// refused is a point that may not be, and its error.
type refused[G comparable] struct {
	point G
	wrong api.Errno
}
