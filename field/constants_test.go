package field

import (
	"math/big"
	"testing"

	"causeway/api"
	"causeway/limbs"
)

// number is the words' by another program's means.
func number(a [4]uint64) *big.Int { return new(big.Int).SetBytes(limbs.Bytes(a)) }

// TestConstants: Ways, each constant is what its remark says, those too that an answer seldom hangs on.
func TestConstants(t *testing.T) {
	for _, f := range []api.Field{api.FieldP, api.FieldR} {
		c, e := constantsOf(f)
		m := number(c.modulus)
		if e != api.OK || !m.ProbablyPrime(20) {
			t.Error("the modulus", f, m, e)
		}
		if c.inverse*c.modulus[0] != 1<<64-1 {
			t.Error("the inverse", f, c.inverse)
		}
		two := big.NewInt(2)
		if number(c.square).Cmp(new(big.Int).Exp(two, big.NewInt(512), m)) != 0 {
			t.Error("the square", f, c.square)
		}
		twos, cycle := cycleOf(f)
		less := new(big.Int).Sub(m, big.NewInt(1))
		if int(less.TrailingZeroBits()) != twos {
			t.Error("how often 2 divides", f, twos)
		}
		// An element whose order is 2^n is -1 to the half of that.
		half := new(big.Int).Lsh(big.NewInt(1), uint(twos-1))
		if new(big.Int).Exp(number(cycle), half, m).Cmp(less) != 0 {
			t.Error("the cycle", f, cycle)
		}
	}
}
