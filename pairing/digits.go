package pairing

import (
	"math"

	"causeway/api"
	"causeway/limbs"
)

// seed is the document's x, of which p and r are made.
const seed = 4965661367192848881

// places are so many that the highest digit of 6x + 2 stands in the last one.
const places = 66

// seedWord answers x.
func seedWord() api.Word { return api.Word{seed} }

// sixSeeds answers 6x.
func sixSeeds() api.Word { return api.Word{6 * seed & math.MaxUint64, 6 * seed >> 64} }

// loopLength answers 6x + 2.
func loopLength() api.Word {
	n, _ := limbs.Add(sixSeeds(), api.Word{2})
	return n
}

// signed answers the digits of a number of 65 bits or fewer, the lowest first: -1, 0 or 1, of two side by side one is 0. They are the bits of 3n less those of n, one place lower, for half of the difference is n.
func signed(n api.Word) [places]int {
	twice, _ := limbs.Add(n, n)
	thrice, _ := limbs.Add(twice, n)
	var digits [places]int
	for i := range digits {
		digits[i] = limbs.Bit(thrice, i+1) - limbs.Bit(n, i+1)
	}
	return digits
}
