package curve

import (
	"causeway/api"
	"causeway/limbs"
)

// digits tells numbers in base 2^width, each place from -2^(width-1) to 2^(width-1): as a negative costs nothing, half as many multiples of a point are held as with digits from 0 on.
type digits struct {
	numbers []api.Word
	width   int
}

// places answers how many the longest of the numbers has.
func (d digits) places() int {
	longest := 0
	for _, n := range d.numbers {
		longest = max(longest, limbs.Len(n))
	}
	// One bit more than the number has, so that its highest digit is not below 0.
	return longest/d.width + 1
}

// at answers the i-th number's digit at a place, the lowest first. A digit whose highest bit is set is told less 2^width, which the next place makes good by adding that bit (Booth).
func (d digits) at(i int, place int) int {
	n := d.numbers[i]
	window := n[0] << 1
	if place > 0 {
		window = limbs.Shr(n, place*d.width-1)[0]
	}
	window &= 1<<(d.width+1) - 1
	digit := int(window+1) / 2
	if window>>d.width == 1 {
		digit -= 1 << d.width
	}
	return digit
}
