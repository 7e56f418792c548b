// Package limbs is layer 1: numbers of 256 bits in four words, the lowest first.
package limbs

import (
	"math/bits"

	"causeway/api"
)

const (
	words    = 4
	wordBits = 64
)

// Add answers the sum's lower 256 bits, and 1 if it has more.
func Add(a api.Word, b api.Word) (api.Word, uint64) {
	var sum api.Word
	var carry uint64
	for i := range words {
		sum[i], carry = bits.Add64(a[i], b[i], carry)
	}
	return sum, carry
}

// Sub answers the difference modulo 2^256, and 1 if b is above a.
func Sub(a api.Word, b api.Word) (api.Word, uint64) {
	var difference api.Word
	var borrow uint64
	for i := range words {
		difference[i], borrow = bits.Sub64(a[i], b[i], borrow)
	}
	return difference, borrow
}

// Mul answers the product's higher and lower 256 bits.
func Mul(a api.Word, b api.Word) (api.Word, api.Word) {
	var product [2 * words]uint64
	for i := range words {
		var over uint64
		for j := range words {
			// Two words' product and two words more fit into two words: no carry is lost.
			high, low := bits.Mul64(a[i], b[j])
			var carry uint64
			low, carry = bits.Add64(low, product[i+j], 0)
			high += carry
			product[i+j], carry = bits.Add64(low, over, 0)
			over = high + carry
		}
		product[i+words] = over
	}
	return api.Word(product[words:]), api.Word(product[:words])
}

// timesWord answers a times one word: the fifth word of the product, and the four below it.
func timesWord(a api.Word, by uint64) (uint64, api.Word) {
	var product api.Word
	var over uint64
	for i := range words {
		high, low := bits.Mul64(a[i], by)
		var carry uint64
		product[i], carry = bits.Add64(low, over, 0)
		over = high + carry
	}
	return over, product
}

// Cmp answers -1 if a is below b, 0 if they are one, 1 if a is above.
func Cmp(a api.Word, b api.Word) int {
	if a == b {
		return 0
	}
	if _, borrow := Sub(a, b); borrow == 1 {
		return -1
	}
	return 1
}

// Len answers how many bits a has; 0 has none.
func Len(a api.Word) int {
	length := 0
	for i, word := range a {
		if word != 0 {
			length = i*wordBits + bits.Len64(word)
		}
	}
	return length
}

// Bit answers the bit of 2^i; 0 where there is none.
func Bit(a api.Word, i int) int {
	if i < 0 || i >= words*wordBits {
		return 0
	}
	return int(a[i/wordBits] >> (i % wordBits) & 1)
}

// Shl answers a shifted up by n bits; by n below 0 it is a.
func Shl(a api.Word, n int) api.Word {
	if n <= 0 {
		return a
	}
	var shifted api.Word
	whole, part := n/wordBits, n%wordBits
	// Of n above 255 no word stays, and the range over no or less than no words ends at once.
	for i := range words - whole {
		shifted[i+whole] = a[i] << part
		if i > 0 {
			shifted[i+whole] |= a[i-1] >> (wordBits - part)
		}
	}
	return shifted
}

// Shr answers a shifted down by n bits; by n below 0 it is a.
func Shr(a api.Word, n int) api.Word {
	if n <= 0 {
		return a
	}
	var shifted api.Word
	whole, part := n/wordBits, n%wordBits
	// Of n above 255 no word stays, as in Shl.
	for i := range words - whole {
		shifted[i] = a[i+whole] >> part
		if i+whole+1 < words {
			shifted[i] |= a[i+whole+1] << (wordBits - part)
		}
	}
	return shifted
}
