package pairing

import (
	"math/big"
	"testing"

	"causeway/api"
	"causeway/limbs"
)

// TestSigned: the loop's digits, behind the faces: they tell the number, of two side by side one is 0, and the loop's highest one is a 1 in the last place, where it begins.
func TestSigned(t *testing.T) {
	for _, n := range []api.Word{{}, {1}, {2}, {3}, {1<<64 - 1}, {1<<64 - 1, 1}, {0, 1}, seedWord(), sixSeeds(), loopLength()} {
		digits := signed(n)
		sum := new(big.Int)
		for i := range digits {
			digit := digits[places-1-i]
			sum.Add(sum.Lsh(sum, 1), big.NewInt(int64(digit)))
			if digit < -1 || digit > 1 || i > 0 && digit != 0 && digits[places-i] != 0 {
				t.Error("a digit", n, digits, places-1-i)
			}
		}
		if sum.String() != limbs.Print(n) {
			t.Error("the digits' number", n, digits, sum)
		}
	}
	if signed(loopLength())[places-1] != 1 {
		t.Error("the loop begins elsewhere")
	}
	if got := limbs.Print(loopLength()); got != "29793968203157093288" {
		t.Error("6x + 2", got)
	}
}
