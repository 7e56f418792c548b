package poseidon

import (
	"iter"
	"math/bits"

	"causeway/api"
)

const (
	constantBits = 254 // as many as r has
	leftOut      = 160 // of the new bits the first ones

	// How many new bits are made at one time: none of them hangs on another, for each is made of bits that stand 18 and more ahead of it.
	step = 16
	// Where the first bits of the new ones' pairs stand.
	firsts = 0x5555
)

// stream is Grain's, of some Rounds.
type stream struct {
	state [2]uint64 // b0 .. b79, from the first word's lowest bit on
	fresh uint64    // the last new bits, the first one lowest
	give  uint64    // the first bits of those of their pairs that are still to give their second one
}

// begin answers the stream behind the bits that are left out.
func begin(r api.Rounds) stream {
	var s stream
	place := 0
	lay := func(number int, count int) {
		for i := range count {
			s.state[place/64] |= uint64(number>>(count-1-i)&1) << (place % 64)
			place++
		}
	}
	lay(1, 2) // a prime field
	lay(0, 4) // x^alpha
	lay(constantBits, 12)
	lay(r.Width, 12)
	lay(r.Full, 10)
	lay(r.Partial, 10)
	lay(1<<30-1, 30)
	for range leftOut / step {
		s.grow()
	}
	return s
}

// grow makes the next new bits, and moves the others down.
func (s *stream) grow() {
	low, high := s.state[0], s.state[1]
	from := func(place int) uint64 { return low>>place | high<<(64-place) }
	s.fresh = (from(62) ^ from(51) ^ from(38) ^ from(23) ^ from(13) ^ from(0)) & (1<<step - 1)
	s.state = [2]uint64{from(step), s.fresh}
}

// word answers the number that the next given bits make, so many of them, the highest first.
func (s *stream) word(count int) uint64 {
	var word uint64
	for range count {
		for s.give == 0 {
			s.grow()
			s.give = s.fresh & firsts
		}
		first := bits.TrailingZeros64(s.give)
		s.give &= s.give - 1
		word = word<<1 | s.fresh>>(first+1)&1
	}
	return word
}

// constant answers the next constant.
func (s *stream) constant() api.Fe {
	for {
		c := api.Fe{3: s.word(constantBits - 3*64)}
		for i := range 3 {
			c[2-i] = s.word(64)
		}
		if below(c) {
			return c
		}
	}
}

// constants hands out the first constants of some Rounds' stream, so many of them, each with its place.
func constants(r api.Rounds, count int) iter.Seq2[int, api.Fe] {
	return func(yield func(int, api.Fe) bool) {
		s := begin(r)
		for i := range count {
			if !yield(i, s.constant()) {
				return
			}
		}
	}
}

// constantsOf answers the constants of all rounds.
func constantsOf(r api.Rounds) []api.Fe {
	l := make([]api.Fe, r.Width*(r.Full+r.Partial))
	for i, c := range constants(r, len(l)) {
		l[i] = c
	}
	return l
}
