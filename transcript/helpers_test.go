package transcript_test

import (
	"bytes"
	"math/big"
	"strings"
	"testing"

	"causeway/api"
	"causeway/curve"
	"causeway/limbs"
	"causeway/transcript"
)

const most = 1<<64 - 1

// digits is the number of decimal digits.
func digits(s string) *big.Int {
	n, _ := new(big.Int).SetString(s, 10)
	return n
}

// order is r and prime is p, from the document's digits.
func order() *big.Int {
	return digits("21888242871839275222246405745257275088548364400416034343698204186575808495617")
}

func prime() *big.Int {
	return digits("21888242871839275222246405745257275088696311157297823662689037894645226208583")
}

// number is an element by another program's means; element leads back, of a number of 256 bits as it stands, below r or not.
func number(a api.Fe) *big.Int { return new(big.Int).SetBytes(limbs.Bytes(api.Word(a))) }

func element(n *big.Int) api.Fe {
	a, _ := limbs.Read(n.FillBytes(make([]byte, 32)))
	return api.Fe(a)
}

// highest is r - 1.
func highest() api.Fe { return element(new(big.Int).Sub(order(), big.NewInt(1))) }

// above are numbers that are not below r.
func above() []api.Fe {
	return []api.Fe{
		element(order()), element(new(big.Int).Add(order(), big.NewInt(1))), element(prime()),
		{0, 0, 0, 0x3064_4e72_e131_a02a}, {0, 0, 0, 1 << 63}, {most, most, most, most},
	}
}

// source draws numbers by xorshift: the same ones in each run.
type source uint64

func (s *source) word() uint64 {
	x := uint64(*s)
	x ^= x << 13
	x ^= x >> 7
	x ^= x << 17
	*s = source(x)
	return x
}

// bytes draws so many; 0 and 255 are among many.
func (s *source) bytes(n int) []byte {
	b := make([]byte, n)
	for i := range b {
		switch s.word() % 4 {
		case 0:
		case 1:
			b[i] = 255
		default:
			b[i] = byte(s.word())
		}
	}
	return b
}

// label draws one that may be.
func (s *source) label() string { return string(s.bytes(1 + int(s.word()%64))) }

// element draws one.
func (s *source) element() api.Fe {
	n := number(api.Fe{s.word(), s.word(), s.word(), s.word()})
	return element(n.Mod(n, order()))
}

// times is a multiple of the generator; of 0 infinity.
func times(n uint64) api.G1 {
	p, _ := curve.Mul1(curve.Gen1(), api.Word{n})
	return p
}

// labels are some that may be: of the edges' lengths, and of all kinds of bytes.
func labels() []string {
	l := []string{"a", "b", "beta", "\x00", "\x00\x00", "\xff", "\xc3\x28", "é", "日本語"}
	for _, n := range []int{2, 30, 31, 32, 33, 61, 62, 63, 64} {
		l = append(l, strings.Repeat("x", n), strings.Repeat("\x00", n), strings.Repeat("\xff", n))
	}
	return l
}

// badLabels are some that may not be; the bytes count, not the characters.
func badLabels() []string {
	return []string{"", strings.Repeat("x", 65), strings.Repeat("\x00", 65), strings.Repeat("日", 22), strings.Repeat("é", 33), strings.Repeat("\xff", 66), strings.Repeat("x", 128), strings.Repeat("x", 4096*31), strings.Repeat("x", 65537)}
}

// badPoints are some that may not be, each with its error.
func badPoints() map[api.G1]api.Errno {
	g := curve.Gen1()
	p := element(prime())
	return map[api.G1]api.Errno{
		{}:                                 api.ErrCurve,
		{X: g.X, Y: api.Fe{3}}:             api.ErrCurve,
		{X: g.Y, Y: g.X}:                   api.ErrCurve,
		{X: p, Y: g.Y}:                     api.ErrElement,
		{X: g.X, Y: p}:                     api.ErrElement,
		{X: g.X, Y: api.Fe{3: most}}:       api.ErrElement,
		{X: g.X, Inf: true}:                api.ErrFlag,
		{Y: g.Y, Inf: true}:                api.ErrFlag,
		{X: g.X, Y: g.Y, Inf: true}:        api.ErrFlag,
		{X: p, Y: p, Inf: true}:            api.ErrFlag,
		{Y: api.Fe{3: 1 << 63}, Inf: true}: api.ErrFlag,
	}
}

// begun is a transcript that New made.
func begun(t *testing.T, label string) *transcript.Transcript {
	t.Helper()
	x, e := transcript.New(label)
	if e != api.OK || x == nil {
		t.Fatal("New", label, e)
	}
	return x
}

// lengths are those of bytes at the edges of pieces.
func lengths() []int {
	return []int{0, 1, 2, 29, 30, 31, 32, 33, 61, 62, 63, 64, 92, 93, 94, 310, 311, 1000}
}

// kinds are so many bytes: all 0, all 255, and drawn ones.
func (s *source) kinds(n int) [][]byte {
	return [][]byte{make([]byte, n), bytes.Repeat([]byte{255}, n), s.bytes(n), s.bytes(n)}
}
