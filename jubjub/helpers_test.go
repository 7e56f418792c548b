package jubjub_test

import (
	"math/big"
	"slices"

	"causeway/api"
	"causeway/limbs"
)

const (
	most = 1<<64 - 1
	size = 32
)

// digits is the number of decimal digits.
func digits(s string) *big.Int {
	n, _ := new(big.Int).SetString(s, 10)
	return n
}

// modulus is r, prime is p and order is l, from the document's digits.
func modulus() *big.Int {
	return digits("21888242871839275222246405745257275088548364400416034343698204186575808495617")
}

func prime() *big.Int {
	return digits("21888242871839275222246405745257275088696311157297823662689037894645226208583")
}

func order() *big.Int {
	return digits("2736030358979909402780800718157159386076813972158567259200215660948447373041")
}

// cofactor is how often the group's points are the curve's.
const cofactor = 8

// whole is a small number.
func whole(n int64) *big.Int { return big.NewInt(n) }

// number is an element by another program's means; element leads back, of a number of 256 bits as it stands, below r or not. word is likewise a number's.
func number(a api.Fe) *big.Int { return new(big.Int).SetBytes(limbs.Bytes(api.Word(a))) }

func element(n *big.Int) api.Fe { return api.Fe(word(n)) }

func word(n *big.Int) api.Word {
	a, _ := limbs.Read(n.FillBytes(make([]byte, size)))
	return a
}

// top is the highest of 256 bits.
func top() *big.Int { return new(big.Int).Lsh(whole(1), 256) }

// above are numbers that are not below r.
func above() []api.Fe {
	return []api.Fe{
		element(modulus()), element(new(big.Int).Add(modulus(), whole(1))), element(prime()),
		{0, 0, 0, 0x3064_4e72_e131_a02a}, {0, 0, 0, 1 << 62}, {0, 0, 0, 1 << 63}, {most, most, most, most},
	}
}

// source draws numbers by xorshift: the same ones in each run.
type source uint64

func (s *source) word() uint64 {
	x := uint64(*s)
	x ^= x << 13
	x ^= x >> 7
	x ^= x << 17
	*s = source(x)
	return x
}

// number draws 256 bits, of all evenly or of words that are often an end.
func (s *source) number() *big.Int {
	a := api.Word{s.word(), s.word(), s.word(), s.word()}
	ends := []uint64{0, 0, 1, most, most - 1, 1 << 63, 0x8888888888888888, 0x1111111111111111, 0xf0f0f0f0f0f0f0f0}
	even := s.word()%3 == 0
	for i := range a {
		if !even && s.word()%2 == 0 {
			a[i] = ends[s.word()%uint64(len(ends))]
		}
	}
	return number(api.Fe(a))
}

// residue draws one modulo r.
func (s *source) residue() *big.Int { return mod(s.number()) }

// spot draws a point of the curve, which is of the group one time in eight.
func (s *source) spot() spot {
	for {
		if p, is := withY(s.residue(), s.word()%2 == 0); is {
			return p
		}
	}
}

// inGroup draws a point of the group.
func (s *source) inGroup() spot { return s.spot().times(whole(cofactor)) }

// small are the curve's eight points whose orders divide 8: the multiples of one whose order is 8.
func small() []spot {
	s := source(7)
	for {
		p := s.spot().times(order())
		if p.times(whole(4)).is(neutral()) {
			continue
		}
		l := []spot{neutral()}
		for range cofactor - 1 {
			l = append(l, l[len(l)-1].plus(p))
		}
		return l
	}
}

// good are points of the group: the first multiples of the base point, the last ones, and drawn ones.
func good(seed source) []spot {
	l := []spot{neutral()}
	for _, n := range []int64{1, 2, 3, 7, 8, 15, 16, 17} {
		p := base().times(whole(n))
		l = append(l, p, p.negative())
	}
	for range 8 {
		l = append(l, seed.inGroup())
	}
	return l
}

// outside are points of the curve that are not of the group: the small ones but the neutral one, and sums of them and good ones.
func outside(seed source) []spot {
	var l []spot
	for _, p := range small()[1:] {
		l = append(l, p, p.plus(base()), p.plus(seed.inGroup()))
	}
	return l
}

// onCurve are points of the curve, of the group or not.
func onCurve(seed source) []spot {
	l := slices.Concat(good(seed), outside(seed))
	for range 8 {
		l = append(l, seed.spot())
	}
	return l
}

// offCurve are points that are not On: near one that is, on other curves, with parts that are not below r.
func offCurve() []api.Ed {
	b := base()
	l := []api.Ed{
		{}, {X: api.Fe{1}}, {X: api.Fe{1}, Y: api.Fe{1}}, {X: api.Fe{2}, Y: api.Fe{3}},
		{X: element(b.y), Y: element(b.x)},
		{X: element(b.x), Y: api.Fe{1}}, {Y: element(b.y)},
		{X: element(mod(new(big.Int).Add(b.x, whole(1)))), Y: element(b.y)},
		{X: element(b.x), Y: element(mod(new(big.Int).Sub(b.y, whole(1))))},
		{X: element(new(big.Int).Add(b.x, modulus())), Y: element(b.y)},
		{X: element(b.x), Y: element(new(big.Int).Add(b.y, modulus()))},
		{X: element(modulus()), Y: api.Fe{1}}, {Y: element(new(big.Int).Add(modulus(), whole(1)))},
		{Y: element(new(big.Int).Sub(new(big.Int).Lsh(modulus(), 1), whole(1)))},
	}
	for _, a := range above() {
		l = append(l, api.Ed{X: a, Y: element(b.y)}, api.Ed{X: element(b.x), Y: a}, api.Ed{X: a, Y: a}, api.Ed{X: a, Y: api.Fe{1}})
	}
	return l
}
