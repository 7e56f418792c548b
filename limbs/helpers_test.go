package limbs_test

import (
	"math/big"

	"causeway/api"
)

const most = 1<<64 - 1

// source draws numbers by xorshift: the same ones in each run.
type source uint64

func (s *source) word() uint64 {
	x := uint64(*s)
	x ^= x << 13
	x ^= x >> 7
	x ^= x << 17
	*s = source(x)
	return x
}

// edgy draws a number whose words are often the lowest, the highest, or the middle of what a word may be.
func (s *source) edgy() api.Word {
	edges := []uint64{0, 0, 1, 2, most, most, most - 1, 1 << 63, 1<<63 - 1, 1<<63 + 1, 1 << 32}
	var a api.Word
	for i := range a {
		a[i] = s.word()
		if s.word()%3 != 0 {
			a[i] = edges[s.word()%uint64(len(edges))]
		}
	}
	return a
}

// edges are all numbers of these words.
func edges() []api.Word {
	words := []uint64{0, 1, most, 1 << 63}
	var l []api.Word
	for _, a := range words {
		for _, b := range words {
			for _, c := range words {
				for _, d := range words {
					l = append(l, api.Word{a, b, c, d})
				}
			}
		}
	}
	return l
}

// toBig is the number by another program's means.
func toBig(a api.Word) *big.Int {
	out := new(big.Int)
	for i := range a {
		out.Lsh(out, 64)
		out.Or(out, new(big.Int).SetUint64(a[3-i]))
	}
	return out
}

// fromBig is the number modulo 2^256.
func fromBig(n *big.Int) api.Word {
	rest := new(big.Int).Mod(n, power(256))
	mask := new(big.Int).SetUint64(most)
	var a api.Word
	for i := range a {
		a[i] = new(big.Int).And(rest, mask).Uint64()
		rest.Rsh(rest, 64)
	}
	return a
}

// power is 2^n.
func power(n uint) *big.Int { return new(big.Int).Lsh(big.NewInt(1), n) }
