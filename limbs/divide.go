package limbs

import (
	"math"
	"math/bits"

	"causeway/api"
)

// Div answers the quotient and the rest; ErrZero if by is 0.
func Div(a api.Word, by uint64) (api.Word, uint64, api.Errno) {
	if by == 0 {
		return api.Word{}, 0, api.ErrZero
	}
	var quotient api.Word
	var rest uint64
	for i := range words {
		at := words - 1 - i
		quotient[at], rest = bits.Div64(rest, a[at], by)
	}
	return quotient, rest, api.OK
}

// Mod answers high * 2^256 + low, modulo m; ErrZero if m is 0.
func Mod(high api.Word, low api.Word, m api.Word) (api.Word, api.Errno) {
	if m == (api.Word{}) {
		return api.Word{}, api.ErrZero
	}
	// Number and modulus are shifted alike, so that the modulus has its highest bit: only then is a quotient's word guessed well from the highest words.
	shift := words*wordBits - Len(m)
	by := Shl(m, shift)
	// What the shift lifts above the 512 bits is below 2^shift, so below by: a rest to begin with.
	rest := Shr(high, words*wordBits-shift)
	rest = takeIn(rest, joined(Shl(high, shift), Shr(low, words*wordBits-shift)), by)
	rest = takeIn(rest, Shl(low, shift), by)
	return Shr(rest, shift), api.OK
}

// joined answers the bits of both.
func joined(a api.Word, b api.Word) api.Word {
	for i := range words {
		a[i] |= b[i]
	}
	return a
}

// takeIn answers rest * 2^256 + a, modulo by; by has its highest bit, and rest is below it.
func takeIn(rest api.Word, a api.Word, by api.Word) api.Word {
	for i := range words {
		rest = takeWord(rest, a[words-1-i], by)
	}
	return rest
}

// takeWord answers rest * 2^64 + word, modulo by; by has its highest bit, and rest is below it.
func takeWord(rest api.Word, word uint64, by api.Word) api.Word {
	guess := uint64(math.MaxUint64)
	if rest[3] < by[3] {
		guess, _ = bits.Div64(rest[3], rest[2], by[3])
	}
	over, product := timesWord(by, guess)
	low, borrow := Sub(api.Word{word, rest[0], rest[1], rest[2]}, product)
	top := rest[3] - over - borrow
	// The guess is right, or too great by 1 or 2 (Knuth, 4.3.1): then the difference lies below 0, its top word has wrapped round, and adding brings it back to 0.
	for top != 0 {
		var carry uint64
		low, carry = Add(low, by)
		top += carry
	}
	return low
}
