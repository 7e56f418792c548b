package transcript

import (
	"iter"

	"causeway/api"
	"causeway/field"
	"causeway/limbs"
)

const (
	pieceBytes = 31 // the most whose numbers are all below r
	wordBytes  = 32
)

// Elements answers how many bytes there are, and then the number of each piece.
func Elements(b []byte) []api.Fe {
	l := make([]api.Fe, 0, 2+len(b)/pieceBytes)
	l = append(l, field.Of(uint64(len(b))))
	for piece := range pieces(b) {
		l = append(l, number(piece))
	}
	return l
}

// elementsOf answers a label's elements.
func elementsOf(label string) []api.Fe { return Elements([]byte(label)) }

// pieces hands out the bytes piece by piece; the last one may be shorter.
func pieces(b []byte) iter.Seq[[]byte] {
	return func(yield func([]byte) bool) {
		rest := b
		cut := func() []byte {
			count := min(pieceBytes, len(rest))
			piece := rest[:count]
			rest = rest[count:]
			return piece
		}
		for len(rest) > 0 {
			if !yield(cut()) {
				return
			}
		}
	}
}

// number answers a piece as a number, its highest byte first.
func number(piece []byte) api.Fe {
	var word [wordBytes]byte
	copy(word[wordBytes-len(piece):], piece)
	n, _ := limbs.Read(word[:])
	return api.Fe(n)
}
