package smt_test

import (
	"math/big"
	"slices"
	"testing"

	"causeway/api"
	"causeway/limbs"
	"causeway/smt"
)

const most = 1<<64 - 1

// order is r, from the document's digits.
func order() *big.Int {
	n, _ := new(big.Int).SetString("21888242871839275222246405745257275088548364400416034343698204186575808495617", 10)
	return n
}

// number is an element by another program's means; element leads back, modulo r, from below 0, too.
func number(a api.Fe) *big.Int { return new(big.Int).SetBytes(limbs.Bytes(api.Word(a))) }

func element(n *big.Int) api.Fe { return plain(new(big.Int).Mod(n, order())) }

// plain is a number of 256 bits as it stands, below r or not.
func plain(n *big.Int) api.Fe {
	a, _ := limbs.Read(n.FillBytes(make([]byte, 32)))
	return api.Fe(a)
}

// whole is a small number's element.
func whole(n int64) api.Fe { return element(big.NewInt(n)) }

// above are numbers that are not below r.
func above() []api.Fe {
	prime, _ := new(big.Int).SetString("21888242871839275222246405745257275088696311157297823662689037894645226208583", 10)
	return []api.Fe{
		plain(order()), plain(order().Add(order(), big.NewInt(1))), plain(prime),
		{0, 0, 0, 0x3064_4e72_e131_a02a}, {0, 0, 0, 1 << 63}, {most, most, most, most},
	}
}

// source draws numbers by xorshift: the same ones in each run.
type source uint64

func (s *source) word() uint64 {
	x := uint64(*s)
	x ^= x << 13
	x ^= x >> 7
	x ^= x << 17
	*s = source(x)
	return x
}

// below draws a number below n.
func (s *source) below(n uint64) uint64 { return s.word() >> 8 % n }

// element draws one; 0, 1 and -1 are among many.
func (s *source) element() api.Fe {
	switch s.word() % 8 {
	case 0, 1:
		return api.Fe{}
	case 2:
		return whole(1)
	case 3:
		return whole(-1)
	}
	return element(number(api.Fe{s.word(), s.word(), s.word(), s.word()}))
}

// list draws so many elements.
func (s *source) list(n int) []api.Fe {
	l := make([]api.Fe, n)
	for i := range l {
		l[i] = s.element()
	}
	return l
}

// few are the least Rounds that a tree may have, by which unlike inputs of Two that meet can be found; usual are those of the other layers.
func few() api.Rounds { return api.Rounds{Width: 3, Full: 2} }

func usual() api.Rounds { return api.Rounds{Width: 3, Full: 8, Partial: 57} }

// some are Rounds that may be: of each Width but 2.
func some() []api.Rounds {
	l := []api.Rounds{usual()}
	for width := 3; width <= api.MaxWidth; width++ {
		l = append(l, api.Rounds{Width: width, Full: 2}, api.Rounds{Width: width, Full: 4, Partial: 1})
	}
	return l
}

// wrong are Rounds that may not be: those that poseidon refuses, and those of a Width of 2.
func wrong() []api.Rounds {
	const least, greatest = -1 << 31, 1<<31 - 1
	l := []api.Rounds{{}, {Width: 2, Full: 2}, {Width: 2, Full: 8, Partial: 56}, {Width: 2, Full: 64, Partial: 128}}
	for _, width := range []int{least, -3, 0, 1, 9, 64, greatest} {
		l = append(l, api.Rounds{Width: width, Full: 8, Partial: 57})
	}
	for _, full := range []int{least, -8, 0, 1, 3, 65, 66, greatest} {
		l = append(l, api.Rounds{Width: 3, Full: full, Partial: 57})
	}
	for _, partial := range []int{least, -1, 129, greatest} {
		l = append(l, api.Rounds{Width: 3, Full: 8, Partial: partial})
	}
	return append(l, api.Rounds{Width: 2, Full: 3, Partial: -1})
}

// wrongDepths are those that no tree has.
func wrongDepths() []int { return []int{-1 << 63, -33, -32, -1, 0, 33, 34, 64, 1<<63 - 1} }

// ends are leaves of a tree of the depth: the first and the last ones, those beside the middle, and drawn ones.
func ends(depth int, seed source) []uint64 {
	count := uint64(1) << depth
	l := []uint64{0, 1, count/2 - 1, count / 2, count - 2, count - 1}
	for range 4 {
		l = append(l, seed.below(count))
	}
	slices.Sort(l)
	return slices.Compact(l)
}

// outside are numbers that no leaf of a tree of the depth has.
func outside(depth int) []uint64 {
	count := uint64(1) << depth
	return []uint64{count, count + 1, 2*count - 1, 2 * count, count | 1<<63, 1 << 33, -count, most}
}

// made is a tree that New made.
func made(t *testing.T, depth int, r api.Rounds) *smt.Tree {
	t.Helper()
	x, e := smt.New(depth, r)
	if e != api.OK || x == nil {
		t.Fatal("New", depth, r, e)
	}
	return x
}

// set is a Set that must go.
func set(t *testing.T, x *smt.Tree, i uint64, leaf api.Fe) {
	t.Helper()
	if e := x.Set(i, leaf); e != api.OK {
		t.Fatal("Set", i, leaf, e)
	}
}

// mustUp is Up of what may be.
func mustUp(t *testing.T, r api.Rounds, i uint64, leaf api.Fe, path []api.Fe) api.Fe {
	t.Helper()
	root, e := smt.Up(r, i, leaf, path)
	if e != api.OK {
		t.Fatal("Up", r, i, leaf, len(path), e)
	}
	return root
}

// mustCheck tells whether Check answers the error.
func mustCheck(t *testing.T, r api.Rounds, root api.Fe, i uint64, leaf api.Fe, path []api.Fe, want api.Errno) {
	t.Helper()
	if e := smt.Check(r, root, i, leaf, path); e != want {
		t.Error("Check", r, root, i, leaf, len(path), e, "and not", want)
	}
}
