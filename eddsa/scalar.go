package eddsa

import (
	"math/bits"

	"causeway/api"
	"causeway/jubjub"
	"causeway/limbs"
)

const words = 4

// scalar is a number below l, the group's order, by words, the lowest first.
type scalar [words]uint64

// isBelowOrder: is it one?
func isBelowOrder(n api.Word) bool { return limbs.Cmp(n, jubjub.Order()) < 0 }

// restOf answers the number modulo l.
func restOf(n api.Word) scalar { return wide{n[0], n[1], n[2], n[3]}.rest() }

// plusProduct answers a + b * c modulo l: a sum of words that is brought below l once.
func (a scalar) plusProduct(b scalar, c scalar) scalar {
	var sum wide
	copy(sum[:], a[:])
	for place, word := range b {
		sum.take(place, word, c)
	}
	return sum.rest()
}

// wide is a number of 512 bits, by words, the lowest first.
type wide [2 * words]uint64

// take adds word times c from the place on, where no row ahead of it came as far as the last word.
func (w *wide) take(place int, word uint64, c scalar) {
	carry := uint64(0)
	for i, factor := range c {
		// A product of two words has room for two words more, so that no carry is lost.
		high, low := bits.Mul64(word, factor)
		low, more := bits.Add64(low, carry, 0)
		carry = high + more
		w[place+i], more = bits.Add64(w[place+i], low, 0)
		carry += more
	}
	w[place+words] = carry
}

// rest answers the number modulo l, which is not 0, so that nothing is refused.
func (w wide) rest() scalar {
	low, high := api.Word(w[:words]), api.Word(w[words:])
	rest, _ := limbs.Mod(high, low, jubjub.Order())
	return scalar(rest)
}
