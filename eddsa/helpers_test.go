package eddsa_test

import (
	"math/big"
	"testing"

	"causeway/api"
	"causeway/limbs"
)

const (
	most    = 1<<64 - 1
	size    = 32
	longest = 4096
)

// digits is the number of decimal digits.
func digits(s string) *big.Int {
	n, _ := new(big.Int).SetString(s, 10)
	return n
}

// modulus is r and order is l, from the document's digits.
func modulus() *big.Int {
	return digits("21888242871839275222246405745257275088548364400416034343698204186575808495617")
}

func order() *big.Int {
	return digits("2736030358979909402780800718157159386076813972158567259200215660948447373041")
}

// cofactor is how often the group's points are the curve's.
const cofactor = 8

// whole is a small number; sum and minus are of two numbers of any size.
func whole(n int64) *big.Int { return big.NewInt(n) }

func sum(a, b *big.Int) *big.Int { return new(big.Int).Add(a, b) }

func minus(a, b *big.Int) *big.Int { return new(big.Int).Sub(a, b) }

// number is a number of 256 bits by another program's means; word leads back, and element likewise, of a number below r or not.
func number(a api.Word) *big.Int { return new(big.Int).SetBytes(limbs.Bytes(a)) }

func word(n *big.Int) api.Word {
	a, _ := limbs.Read(n.FillBytes(make([]byte, size)))
	return a
}

func element(n *big.Int) api.Fe { return api.Fe(word(n)) }

// top is the first number that has more than 256 bits.
func top() *big.Int { return new(big.Int).Lsh(whole(1), 256) }

// source draws numbers by xorshift: the same ones in each run.
type source uint64

func (s *source) word() uint64 {
	x := uint64(*s)
	x ^= x << 13
	x ^= x >> 7
	x ^= x << 17
	*s = source(x)
	return x
}

// number draws 256 bits.
func (s *source) number() *big.Int {
	return number(api.Word{s.word(), s.word(), s.word(), s.word()})
}

// below draws a number below l, which is none of the ends.
func (s *source) below() *big.Int { return rest(s.number()) }

// bytes draws that many.
func (s *source) bytes(n int) []byte {
	l := make([]byte, n)
	for i := range l {
		l[i] = byte(s.word() >> 20)
	}
	return l
}

// secrets are numbers that may be one: the first ones, the last ones, some whose words are ends, and drawn ones.
func secrets(seed source) []*big.Int {
	l := []*big.Int{
		whole(1), whole(2), whole(5), minus(order(), whole(1)), minus(order(), whole(2)),
		number(api.Word{0, 1}), number(api.Word{most, most, most}), number(api.Word{0, 0, 0, 1}), number(api.Word{most, most, most, 0x060c89ce5c263404}),
	}
	for range 4 {
		l = append(l, seed.below())
	}
	return l
}

// noSecrets are numbers that may be none.
func noSecrets() []*big.Int {
	l := []*big.Int{whole(0), minus(top(), whole(1)), new(big.Int).Rsh(top(), 1), modulus(), minus(modulus(), whole(1)), sum(modulus(), whole(1))}
	for _, n := range tooGreat() {
		l = append(l, number(n))
	}
	return l
}

// belowOrder are numbers that S may be, tooGreat some that it may not be.
func belowOrder() []api.Word {
	return []api.Word{
		{}, {1}, {most, most, most}, word(minus(order(), whole(1))), word(minus(order(), whole(2))),
		{0x677297dc392126f2, 0xab3eedb83920ee09, 0x370a08b6d0302b0b, 0x060c89ce5c263405}, {most, most, 0x370a08b6d0302b0a, 0x060c89ce5c263405},
	}
}

func tooGreat() []api.Word {
	l := []api.Word{
		word(order()), word(sum(order(), whole(1))), {most, most, most, most}, {0, 0, 0, 1 << 63}, word(modulus()),
		{0, 0xab3eedb83920ee0b, 0x370a08b6d0302b0b, 0x060c89ce5c263405}, {0, 0, 0x370a08b6d0302b0c, 0x060c89ce5c263405}, {0, 0, 0, 0x060c89ce5c263406},
	}
	for i := int64(2); i <= cofactor; i++ {
		l = append(l, word(new(big.Int).Mul(order(), whole(i))))
	}
	return l
}

// messages are some of all lengths about a piece's 31 bytes, of zeros and of other bytes, up to the longest.
func messages(seed source) [][]byte {
	l := [][]byte{nil, {}, {0}, {0, 0}, []byte("a"), []byte("b"), make([]byte, 31), make([]byte, 32)}
	for _, n := range []int{1, 2, 30, 31, 32, 61, 62, 63, 64, 1000} {
		l = append(l, seed.bytes(n))
	}
	return append(l, make([]byte, longest), seed.bytes(longest-1), seed.bytes(longest))
}

// offCurve are points that are not on it: beside it, or with an X or a Y that is not below r.
func offCurve() []api.Ed {
	p := base().ed()
	return []api.Ed{
		{}, {X: api.Fe{1}, Y: api.Fe{1}}, {X: p.Y, Y: p.X}, {X: p.X}, {Y: p.Y}, {X: api.Fe{1}},
		{X: element(modulus()), Y: api.Fe{1}},
		{Y: element(sum(modulus(), whole(1)))},
		{X: element(sum(base().x, modulus())), Y: p.Y},
		{X: p.X, Y: element(sum(base().y, modulus()))},
		{X: api.Fe{most, most, most, most}, Y: api.Fe{most, most, most, most}},
	}
}

// outside are points of the curve that are not of the group: those but the neutral one whose orders divide 8, and sums of them and the group's.
func outside() []api.Ed {
	var l []api.Ed
	for i, p := range small() {
		l = append(l, p.ed(), p.plus(base().times(whole(int64(i+1)))).ed())
	}
	return l
}

// mustBe tells whether an answer is the one that is asked, with no error.
func mustBe[A comparable](t *testing.T, what string, want A) func(A, api.Errno) {
	return func(got A, e api.Errno) {
		t.Helper()
		if e != api.OK || got != want {
			t.Error(what, got, e, "and not", want)
		}
	}
}

// mustRefuse tells whether the error is the one that is asked, and nothing stands beside it.
func mustRefuse[A comparable](t *testing.T, what string, wrong api.Errno) func(A, api.Errno) {
	return func(got A, e api.Errno) {
		t.Helper()
		var none A
		if e != wrong || got != none {
			t.Error(what, got, e, "and not", wrong)
		}
	}
}
