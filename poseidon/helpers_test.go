package poseidon_test

import (
	"math/big"
	"slices"
	"testing"

	"causeway/api"
	"causeway/limbs"
	"causeway/poseidon"
)

const most = 1<<64 - 1

// order is r, from the document's digits.
func order() *big.Int {
	n, _ := new(big.Int).SetString("21888242871839275222246405745257275088548364400416034343698204186575808495617", 10)
	return n
}

// number is an element by another program's means; element leads back, modulo r, from below 0, too.
func number(a api.Fe) *big.Int { return new(big.Int).SetBytes(limbs.Bytes(api.Word(a))) }

func element(n *big.Int) api.Fe { return plain(new(big.Int).Mod(n, order())) }

// plain is a number of 256 bits as it stands, below r or not.
func plain(n *big.Int) api.Fe {
	a, _ := limbs.Read(n.FillBytes(make([]byte, 32)))
	return api.Fe(a)
}

// whole is a small number's element, and list are some.
func whole(n int64) api.Fe { return element(big.NewInt(n)) }

func list(l ...int64) []api.Fe {
	var out []api.Fe
	for _, n := range l {
		out = append(out, whole(n))
	}
	return out
}

// numbers and elements lead from one kind of list to the other.
func numbers(l []api.Fe) []*big.Int {
	var out []*big.Int
	for _, a := range l {
		out = append(out, number(a))
	}
	return out
}

func elements(l []*big.Int) []api.Fe {
	var out []api.Fe
	for _, n := range l {
		out = append(out, element(n))
	}
	return out
}

// above are numbers that are not below r.
func above() []api.Fe {
	prime, _ := new(big.Int).SetString("21888242871839275222246405745257275088696311157297823662689037894645226208583", 10)
	return []api.Fe{
		plain(order()), plain(order().Add(order(), big.NewInt(1))), plain(prime),
		{0, 0, 0, 0x3064_4e72_e131_a02a}, {0, 0, 0, 1 << 63}, {most, most, most, most},
	}
}

// source draws numbers by xorshift: the same ones in each run.
type source uint64

func (s *source) word() uint64 {
	x := uint64(*s)
	x ^= x << 13
	x ^= x >> 7
	x ^= x << 17
	*s = source(x)
	return x
}

// element draws one; 0, 1 and -1 are among many.
func (s *source) element() api.Fe {
	switch s.word() % 8 {
	case 0:
		return api.Fe{}
	case 1:
		return whole(1)
	case 2:
		return whole(-1)
	}
	return element(number(api.Fe{s.word(), s.word(), s.word(), s.word()}))
}

// list draws so many elements.
func (s *source) list(n int) []api.Fe {
	l := make([]api.Fe, n)
	for i := range l {
		l[i] = s.element()
	}
	return l
}

// some are Rounds that may be: of each Width the least and a few more, and the greatest of all kinds.
func some() []api.Rounds {
	var l []api.Rounds
	for width := 2; width <= api.MaxWidth; width++ {
		for _, r := range [][2]int{{2, 0}, {2, 1}, {4, 0}, {4, 2}, {6, 5}, {10, 3}} {
			l = append(l, api.Rounds{Width: width, Full: r[0], Partial: r[1]})
		}
	}
	for _, r := range [][3]int{{3, 8, 57}, {2, 8, 56}, {2, 64, 128}, {8, 64, 128}, {5, 64, 0}, {4, 2, 128}, {8, 2, 0}} {
		l = append(l, api.Rounds{Width: r[0], Full: r[1], Partial: r[2]})
	}
	return l
}

// wrong are Rounds that may not be, by one of the three or by more.
func wrong() []api.Rounds {
	const least, greatest = -1 << 31, 1<<31 - 1
	var l []api.Rounds
	for _, width := range []int{least, -3, -1, 0, 1, 9, 10, 64, greatest} {
		l = append(l, api.Rounds{Width: width, Full: 8, Partial: 57})
	}
	for _, full := range []int{least, -8, -2, -1, 0, 1, 3, 7, 63, 65, 66, 128, greatest - 1, greatest} {
		l = append(l, api.Rounds{Width: 3, Full: full, Partial: 57})
	}
	for _, partial := range []int{least, -57, -1, 129, 130, 256, greatest} {
		l = append(l, api.Rounds{Width: 3, Full: 8, Partial: partial})
	}
	return append(l, api.Rounds{}, api.Rounds{Width: 9, Full: 65, Partial: 129}, api.Rounds{Width: 2, Full: 3, Partial: -1}, api.Rounds{Width: -1, Full: -2, Partial: -1})
}

// permute, hash and two are the calls' answers to what may be.
func permute(t *testing.T, r api.Rounds, state []api.Fe) []api.Fe {
	t.Helper()
	l, e := poseidon.Permute(r, state)
	if e != api.OK || len(l) != r.Width {
		t.Fatal("Permute", r, state, l, e)
	}
	return l
}

func hash(t *testing.T, r api.Rounds, l []api.Fe) api.Fe {
	t.Helper()
	digest, e := poseidon.Hash(r, l)
	if e != api.OK {
		t.Fatal("Hash", r, len(l), e)
	}
	return digest
}

func two(t *testing.T, r api.Rounds, a, b api.Fe) api.Fe {
	t.Helper()
	digest, e := poseidon.Two(r, a, b)
	if e != api.OK {
		t.Fatal("Two", r, a, b, e)
	}
	return digest
}

// mustList tells whether a list is answered as it should be, without an error.
func mustList(t *testing.T, what string, r api.Rounds, got []api.Fe, e api.Errno, want []api.Fe) {
	t.Helper()
	if e != api.OK || !slices.Equal(got, want) {
		t.Error(what, r, len(got), len(want), got[:min(3, len(got))], want[:min(3, len(want))], e)
	}
}
