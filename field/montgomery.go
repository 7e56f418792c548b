package field

import (
	"math/bits"

	"causeway/api"
	"causeway/limbs"
)

// kept is an element in Montgomery's form: times 2^256, modulo the modulus. None leaves the package.
type kept [4]uint64

// into answers an element in Montgomery's form.
func (c *constants) into(a api.Fe) kept {
	return c.times(kept(a), c.square)
}

// out answers the element that is kept so.
func (c *constants) out(a kept) api.Fe {
	return api.Fe(c.times(a, kept{1}))
}

// one answers the element 1 in Montgomery's form.
func (c *constants) one() kept {
	return c.into(Of(1))
}

// product answers the product of two plain elements: times takes away the 2^256 that one of them was given.
func (c *constants) product(a api.Fe, b api.Fe) api.Fe {
	return api.Fe(c.times(c.into(a), kept(b)))
}

// times answers a b / 2^256, modulo the modulus: of two that are kept so their product, kept so; of one and a plain element their product, plain.
func (c *constants) times(a kept, b kept) kept {
	m := &c.modulus
	var t0, t1, t2, t3 uint64
	for _, word := range a {
		// What is gathered stays below two moduli, so in four words: less than 2^64 times b and less than 2^64 times the modulus come to it, and the sum is divided by 2^64.
		over, low := timesPlus(word, b[0], t0, 0)
		clear := low * c.inverse
		carry, _ := timesPlus(clear, m[0], low, 0)
		over, low = timesPlus(word, b[1], t1, over)
		carry, t0 = timesPlus(clear, m[1], low, carry)
		over, low = timesPlus(word, b[2], t2, over)
		carry, t1 = timesPlus(clear, m[2], low, carry)
		over, low = timesPlus(word, b[3], t3, over)
		carry, t2 = timesPlus(clear, m[3], low, carry)
		t3 = over + carry
	}
	return kept(c.once(t0, t1, t2, t3))
}

// timesPlus answers a b + c + d, the higher word and the lower: it has no third.
func timesPlus(a uint64, b uint64, c uint64, d uint64) (uint64, uint64) {
	high, low := bits.Mul64(a, b)
	low, carry := bits.Add64(low, c, 0)
	high, _ = bits.Add64(high, 0, carry)
	low, carry = bits.Add64(low, d, 0)
	high, _ = bits.Add64(high, 0, carry)
	return high, low
}

// once answers a number below two moduli, modulo the modulus. Like the next three it is written word by word, for all layers stand on them: through limbs' calls a sum takes twice the time.
func (c *constants) once(t0 uint64, t1 uint64, t2 uint64, t3 uint64) api.Fe {
	m := &c.modulus
	d0, borrow := bits.Sub64(t0, m[0], 0)
	d1, borrow := bits.Sub64(t1, m[1], borrow)
	d2, borrow := bits.Sub64(t2, m[2], borrow)
	d3, borrow := bits.Sub64(t3, m[3], borrow)
	if borrow == 1 {
		return api.Fe{t0, t1, t2, t3}
	}
	return api.Fe{d0, d1, d2, d3}
}

// has: is a below the modulus?
func (c *constants) has(a api.Fe) bool {
	m := &c.modulus
	_, borrow := bits.Sub64(a[0], m[0], 0)
	_, borrow = bits.Sub64(a[1], m[1], borrow)
	_, borrow = bits.Sub64(a[2], m[2], borrow)
	_, borrow = bits.Sub64(a[3], m[3], borrow)
	return borrow == 1
}

// plus answers the sum; two moduli have but 255 bits, so that no carry is lost.
func (c *constants) plus(a api.Fe, b api.Fe) api.Fe {
	t0, carry := bits.Add64(a[0], b[0], 0)
	t1, carry := bits.Add64(a[1], b[1], carry)
	t2, carry := bits.Add64(a[2], b[2], carry)
	t3, _ := bits.Add64(a[3], b[3], carry)
	return c.once(t0, t1, t2, t3)
}

// minus answers the difference.
func (c *constants) minus(a api.Fe, b api.Fe) api.Fe {
	t0, borrow := bits.Sub64(a[0], b[0], 0)
	t1, borrow := bits.Sub64(a[1], b[1], borrow)
	t2, borrow := bits.Sub64(a[2], b[2], borrow)
	t3, borrow := bits.Sub64(a[3], b[3], borrow)
	if borrow == 0 {
		return api.Fe{t0, t1, t2, t3}
	}
	m := &c.modulus
	t0, carry := bits.Add64(t0, m[0], 0)
	t1, carry = bits.Add64(t1, m[1], carry)
	t2, carry = bits.Add64(t2, m[2], carry)
	t3, _ = bits.Add64(t3, m[3], carry)
	return api.Fe{t0, t1, t2, t3}
}

// power answers a to the n; to the 0 it is 1.
func (c *constants) power(a kept, n api.Word) kept {
	result := c.one()
	length := limbs.Len(n)
	for i := range length {
		result = c.times(result, result)
		if limbs.Bit(n, length-1-i) == 1 {
			result = c.times(result, a)
		}
	}
	return result
}

// inverted answers the inverse, by Fermat; 0 of 0.
func (c *constants) inverted(a kept) kept {
	n, _ := limbs.Sub(c.modulus, api.Word{2})
	return c.power(a, n)
}
