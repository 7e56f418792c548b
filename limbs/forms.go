package limbs

import (
	"strconv"
	"strings"

	"causeway/api"
)

const (
	size = 32 // bytes of a number

	chunk       = 10_000_000_000_000_000_000 // the greatest power of ten in a word
	chunkDigits = 19
	mostDigits  = 78 // of 2^256 - 1
)

// Bytes answers 32 bytes, the highest first.
func Bytes(a api.Word) []byte {
	out := make([]byte, size)
	for i := range size {
		out[size-1-i] = byte(a[i/8] >> (i % 8 * 8))
	}
	return out
}

// Read answers the number of 32 bytes, the highest first; ErrCount if they are not 32.
func Read(b []byte) (api.Word, api.Errno) {
	if len(b) != size {
		return api.Word{}, api.ErrCount
	}
	var a api.Word
	for i := range size {
		a[i/8] |= uint64(b[size-1-i]) << (i % 8 * 8)
	}
	return a, api.OK
}

// Print answers decimal digits, without a 0 ahead.
func Print(a api.Word) string {
	tail := ""
	for {
		higher, rest, _ := Div(a, chunk)
		digits := strconv.FormatUint(rest, 10)
		if higher == (api.Word{}) {
			return digits + tail
		}
		tail = strings.Repeat("0", chunkDigits-len(digits)) + digits + tail
		a = higher
	}
}

// Parse answers the number that Print tells so; ErrWord if it tells none so, ErrRange if the number has more than 256 bits.
func Parse(s string) (api.Word, api.Errno) {
	if !isNumber(s) {
		return api.Word{}, api.ErrWord
	}
	if len(s) > mostDigits {
		return api.Word{}, api.ErrRange
	}
	var a api.Word
	for i := range len(s) {
		over, tens := timesWord(a, 10)
		sum, carry := Add(tens, api.Word{uint64(s[i] - '0')})
		if over != 0 || carry != 0 {
			return api.Word{}, api.ErrRange
		}
		a = sum
	}
	return a, api.OK
}

// isNumber: is it decimal digits, without a 0 ahead?
func isNumber(s string) bool {
	for i := range len(s) {
		if s[i] < '0' || s[i] > '9' {
			return false
		}
	}
	return s == "0" || s != "" && s[0] != '0'
}
