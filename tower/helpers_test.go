package tower_test

import (
	"math/big"

	"causeway/api"
	"causeway/field"
	"causeway/tower"
)

const most = 1<<64 - 1

// prime is p, from the document's digits.
func prime() *big.Int {
	p, _ := new(big.Int).SetString("21888242871839275222246405745257275088696311157297823662689037894645226208583", 10)
	return p
}

// toBig is the number by another program's means.
func toBig(a [4]uint64) *big.Int {
	out := new(big.Int)
	for i := range a {
		out.Lsh(out, 64)
		out.Or(out, new(big.Int).SetUint64(a[3-i]))
	}
	return out
}

// part is the number modulo p; of one below 0, too.
func part(n *big.Int) api.Fe {
	rest := new(big.Int).Mod(n, prime())
	mask := new(big.Int).SetUint64(most)
	var a api.Fe
	for i := range a {
		a[i] = new(big.Int).And(rest, mask).Uint64()
		rest.Rsh(rest, 64)
	}
	return a
}

// whole is a small number's part.
func whole(n int64) api.Fe { return part(big.NewInt(n)) }

// parts are an element's twelve, A.A.A first.
func parts(a *api.E12) [12]*api.Fe {
	return [12]*api.Fe{
		&a.A.A.A, &a.A.A.B, &a.A.B.A, &a.A.B.B, &a.A.C.A, &a.A.C.B,
		&a.B.A.A, &a.B.A.B, &a.B.B.A, &a.B.B.B, &a.B.C.A, &a.B.C.B,
	}
}

// of2 and of6 are elements of the lower fields, as what they are in Fp12.
func of2(a api.E2) api.E12 { return of6(api.E6{A: a}) }
func of6(a api.E6) api.E12 { return api.E12{A: a} }

// ofW is c w^i.
func ofW(c api.E2, i int) api.E12 {
	var a api.E12
	*[6]*api.E2{&a.A.A, &a.B.A, &a.A.B, &a.B.B, &a.A.C, &a.B.C}[i] = c
	return a
}

// reduced is the element whose parts are taken modulo p.
func reduced(a api.E12) api.E12 {
	for _, x := range parts(&a) {
		*x = part(toBig(*x))
	}
	return a
}

// powers is an element of Fp12 by another program's means: what stands in Fp before the powers of w, for u is w^6 - 9.
type powers [12]*big.Int

// inPowers is the element so.
func inPowers(a api.E12) powers {
	var out powers
	p := parts(&a)
	for i, at := range [6]int{0, 2, 4, 1, 3, 5} { // A.A, A.B, A.C, B.A, B.B, B.C stand before these powers
		x, y := toBig(*p[2*i]), toBig(*p[2*i+1])
		out[at] = x.Sub(x, new(big.Int).Mul(y, big.NewInt(9)))
		out[at+6] = y
	}
	return out
}

// element is the element in api's form.
func (a powers) element() api.E12 {
	var out api.E12
	p := parts(&out)
	for i, at := range [6]int{0, 2, 4, 1, 3, 5} {
		*p[2*i] = part(new(big.Int).Add(a[at], new(big.Int).Mul(a[at+6], big.NewInt(9))))
		*p[2*i+1] = part(a[at+6])
	}
	return out
}

// times is the product: (w^6 - 9)^2 is -1, so w^12 is 18 w^6 - 82.
func (a powers) times(b powers) powers {
	var long [24]*big.Int
	for i := range long {
		long[i] = new(big.Int)
	}
	for i, x := range a {
		for j, y := range b {
			long[i+j].Add(long[i+j], new(big.Int).Mul(x, y))
		}
	}
	for i := 23; i >= 12; i-- {
		long[i-6].Add(long[i-6], new(big.Int).Mul(long[i], big.NewInt(18)))
		long[i-12].Sub(long[i-12], new(big.Int).Mul(long[i], big.NewInt(82)))
	}
	var out powers
	for i := range out {
		out[i] = long[i].Mod(long[i], prime())
	}
	return out
}

// to is the n-th power.
func (a powers) to(n *big.Int) powers {
	out := inPowers(api.E12{A: api.E6{A: api.E2{A: api.Fe{1}}}})
	for i := n.BitLen() - 1; i >= 0; i-- {
		out = out.times(out)
		if n.Bit(i) == 1 {
			out = out.times(a)
		}
	}
	return out
}

// sum is a and by times b, part by part.
func sum(a api.E12, by int64, b api.E12) api.E12 {
	q := parts(&b)
	for i, x := range parts(&a) {
		*x = part(new(big.Int).Add(toBig(*x), new(big.Int).Mul(big.NewInt(by), toBig(*q[i]))))
	}
	return a
}

// product is a b.
func product(a, b api.E12) api.E12 { return inPowers(a).times(inPowers(b)).element() }

// toThe is a to the n.
func toThe(a api.E12, n *big.Int) api.E12 { return inPowers(a).to(n).element() }

// source draws numbers by xorshift: the same ones in each run.
type source uint64

func (s *source) word() uint64 {
	x := uint64(*s)
	x ^= x << 13
	x ^= x >> 7
	x ^= x << 17
	*s = source(x)
	return x
}

// number draws 256 bits.
func (s *source) number() [4]uint64 {
	return [4]uint64{s.word(), s.word(), s.word(), s.word()}
}

// part draws one, of all evenly or at an end of Fp.
func (s *source) part() api.Fe {
	half := new(big.Int).Rsh(prime(), 1)
	switch s.word() % 8 {
	case 0:
		return api.Fe{}
	case 1:
		return whole(int64(s.word()%7) - 3)
	case 2:
		return part(half.Add(half, big.NewInt(int64(s.word()%4)-1)))
	}
	return part(toBig(s.number()))
}

// raw draws four words, often at or above p.
func (s *source) raw() api.Fe {
	switch s.word() % 4 {
	case 0:
		return s.part()
	case 1: // a multiple of p, and what is near it: 2^256 is between 5 and 6 times p
		n := new(big.Int).Mul(prime(), new(big.Int).SetUint64(1+s.word()%5))
		n.Add(n, big.NewInt(int64(s.word()%5)-2))
		return ofBig(n)
	case 2:
		return api.Fe{most, most, most, most - s.word()%3}
	}
	return s.number()
}

// ofBig is a number below 2^256 as it is.
func ofBig(n *big.Int) api.Fe {
	var a api.Fe
	for i := range a {
		a[i] = new(big.Int).Rsh(n, uint(64*i)).Uint64()
	}
	return a
}

// element draws one of Fp12 whose parts are drawn so.
func (s *source) element(draw func() api.Fe) api.E12 {
	var a api.E12
	for _, x := range parts(&a) {
		*x = draw()
	}
	return a
}

// two, six and twelve draw elements of the three fields.
func (s *source) two() api.E2     { return api.E2{A: s.part(), B: s.part()} }
func (s *source) six() api.E6     { return api.E6{A: s.two(), B: s.two(), C: s.two()} }
func (s *source) twelve() api.E12 { return s.element(s.part) }

// edges are elements with few parts: 0, powers of w times small numbers and ends of Fp, one more than these, and all parts alike.
func edges() []api.E12 {
	l := []api.E12{{}}
	for _, c := range []api.E2{{A: whole(1)}, {B: whole(1)}, {A: whole(-1)}, {B: whole(-1)}, {A: whole(9), B: whole(1)}, {A: whole(-2), B: whole(5)}} {
		for i := range 6 {
			l = append(l, ofW(c, i), sum(tower.One12(), 1, ofW(c, i)))
		}
	}
	for _, n := range []int64{1, 2, -1, -2} {
		var a api.E12
		for _, x := range parts(&a) {
			*x = whole(n)
		}
		l = append(l, a)
	}
	return l
}

// pairs calls do with pairs of edges and of drawn elements.
func pairs(seed source, draws int, do func(a, b api.E12)) {
	l := edges()
	for i, a := range l {
		for j := range 7 {
			do(a, l[(i*5+j*11)%len(l)])
		}
		do(a, a)
	}
	for range draws {
		do(seed.twelve(), seed.twelve())
	}
}

// cyclotomic is a to the (p^6 - 1) (p^2 + 1), which is in the cyclotomic subgroup; a is not 0.
func cyclotomic(a api.E12) api.E12 {
	inverse, _ := tower.Inv12(a)
	b := tower.Mul12(tower.Conj12(a), inverse)
	return tower.Mul12(tower.Frob12(b, 2), b)
}

// answer is what a call answers.
type answer struct {
	value api.E12
	is    bool
	wrong api.Errno
}

// call is a call of the package, of elements of Fp12: those of the lower fields take their first parts.
type call struct {
	name string
	of   func(a, b api.E12) answer
}

// only is the answer of a call that has no error.
func only(a api.E12) answer { return answer{value: a} }

// calls are all calls but One12.
func calls() []call {
	return append(lowerCalls(), []call{
		{"Mul12", func(a, b api.E12) answer { return only(tower.Mul12(a, b)) }},
		{"Conj12", func(a, _ api.E12) answer { return only(tower.Conj12(a)) }},
		{"Inv12", func(a, _ api.E12) answer {
			x, e := tower.Inv12(a)
			return answer{value: x, wrong: e}
		}},
		{"Frob12 by 0", func(a, _ api.E12) answer { return only(tower.Frob12(a, 0)) }},
		{"Frob12 by 1", func(a, _ api.E12) answer { return only(tower.Frob12(a, 1)) }},
		{"Frob12 by -2", func(a, _ api.E12) answer { return only(tower.Frob12(a, -2)) }},
		{"Exp12 by 0", func(a, _ api.E12) answer { return only(tower.Exp12(a, api.Word{})) }},
		{"Exp12 by 1", func(a, _ api.E12) answer { return only(tower.Exp12(a, api.Word{1})) }},
		{"Exp12 by 5", func(a, _ api.E12) answer { return only(tower.Exp12(a, api.Word{5})) }},
		{"Square12", func(a, _ api.E12) answer { return only(tower.Square12(a)) }},
		{"Cyclo12", func(a, _ api.E12) answer {
			x, e := tower.Cyclo12(a)
			return answer{value: x, wrong: e}
		}},
		{"InCyclo", func(a, _ api.E12) answer { return answer{is: tower.InCyclo(a)} }},
	}...)
}

// lowerCalls are those of Fp2 and Fp6.
func lowerCalls() []call {
	return []call{
		{"Add2", func(a, b api.E12) answer { return only(of2(tower.Add2(a.A.A, b.A.A))) }},
		{"Sub2", func(a, b api.E12) answer { return only(of2(tower.Sub2(a.A.A, b.A.A))) }},
		{"Mul2", func(a, b api.E12) answer { return only(of2(tower.Mul2(a.A.A, b.A.A))) }},
		{"Neg2", func(a, _ api.E12) answer { return only(of2(tower.Neg2(a.A.A))) }},
		{"Conj2", func(a, _ api.E12) answer { return only(of2(tower.Conj2(a.A.A))) }},
		{"Xi2", func(a, _ api.E12) answer { return only(of2(tower.Xi2(a.A.A))) }},
		{"Inv2", func(a, _ api.E12) answer {
			x, e := tower.Inv2(a.A.A)
			return answer{value: of2(x), wrong: e}
		}},
		{"Sqrt2", func(a, _ api.E12) answer {
			x, e := tower.Sqrt2(a.A.A)
			return answer{value: of2(x), wrong: e}
		}},
		{"Sqrt2 of a square", func(a, _ api.E12) answer {
			x, e := tower.Sqrt2(tower.Mul2(a.A.A, a.A.A))
			return answer{value: of2(x), wrong: e}
		}},
		{"Add6", func(a, b api.E12) answer { return only(of6(tower.Add6(a.A, b.A))) }},
		{"Sub6", func(a, b api.E12) answer { return only(of6(tower.Sub6(a.A, b.A))) }},
		{"Mul6", func(a, b api.E12) answer { return only(of6(tower.Mul6(a.A, b.A))) }},
		{"Neg6", func(a, _ api.E12) answer { return only(of6(tower.Neg6(a.A))) }},
		{"V6", func(a, _ api.E12) answer { return only(of6(tower.V6(a.A))) }},
		{"Inv6", func(a, _ api.E12) answer {
			x, e := tower.Inv6(a.A)
			return answer{value: of6(x), wrong: e}
		}},
	}
}

// mayBe: are all parts below p?
func mayBe(a api.E12) bool {
	for _, x := range parts(&a) {
		if field.Check(api.FieldP, *x) != api.OK {
			return false
		}
	}
	return true
}
