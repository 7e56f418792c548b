package limbs_test

import (
	"math"
	"math/big"
	"testing"

	"causeway/api"
	"causeway/limbs"
)

// pairs calls do with edges and drawn numbers.
func pairs(do func(a, b api.Word)) {
	l := edges()
	for _, a := range l {
		for _, b := range l {
			do(a, b)
		}
	}
	s := source(11)
	for range 20000 {
		do(s.edgy(), s.edgy())
	}
}

// TestSums: P1.1, Add and Sub with their carries and borrows.
func TestSums(t *testing.T) {
	pairs(func(a, b api.Word) {
		sum := new(big.Int).Add(toBig(a), toBig(b))
		if got, carry := limbs.Add(a, b); got != fromBig(sum) || carry != new(big.Int).Rsh(sum, 256).Uint64() {
			t.Fatal("Add", a, b, got, carry)
		}
		borrowed := uint64(0)
		if toBig(a).Cmp(toBig(b)) < 0 {
			borrowed = 1
		}
		if got, borrow := limbs.Sub(a, b); got != fromBig(new(big.Int).Sub(toBig(a), toBig(b))) || borrow != borrowed {
			t.Fatal("Sub", a, b, got, borrow)
		}
	})
}

// TestCarries: P1.1, a carry and a borrow that go through all words, written out.
func TestCarries(t *testing.T) {
	all := api.Word{most, most, most, most}
	if sum, carry := limbs.Add(all, api.Word{1}); sum != (api.Word{}) || carry != 1 {
		t.Error("Add(2^256 - 1, 1)", sum, carry)
	}
	if sum, carry := limbs.Add(all, all); sum != (api.Word{most - 1, most, most, most}) || carry != 1 {
		t.Error("Add(2^256 - 1, 2^256 - 1)", sum, carry)
	}
	if sum, carry := limbs.Add(api.Word{most, most, most}, api.Word{1}); sum != (api.Word{0, 0, 0, 1}) || carry != 0 {
		t.Error("Add(2^192 - 1, 1)", sum, carry)
	}
	if difference, borrow := limbs.Sub(api.Word{}, api.Word{1}); difference != all || borrow != 1 {
		t.Error("Sub(0, 1)", difference, borrow)
	}
	if difference, borrow := limbs.Sub(api.Word{0, 0, 0, 1}, api.Word{1}); difference != (api.Word{most, most, most}) || borrow != 0 {
		t.Error("Sub(2^192, 1)", difference, borrow)
	}
	if difference, borrow := limbs.Sub(all, all); difference != (api.Word{}) || borrow != 0 {
		t.Error("Sub(2^256 - 1, 2^256 - 1)", difference, borrow)
	}
}

// TestMul: P1.1, the higher half and the lower.
func TestMul(t *testing.T) {
	pairs(func(a, b api.Word) {
		product := new(big.Int).Mul(toBig(a), toBig(b))
		high, low := limbs.Mul(a, b)
		if high != fromBig(new(big.Int).Rsh(product, 256)) || low != fromBig(product) {
			t.Fatal("Mul", a, b, high, low)
		}
	})
	if high, low := limbs.Mul(api.Word{0, 0, 0, 1 << 63}, api.Word{2}); high != (api.Word{1}) || low != (api.Word{}) {
		t.Error("Mul(2^255, 2)", high, low)
	}
	all := api.Word{most, most, most, most}
	if high, low := limbs.Mul(all, all); high != (api.Word{most - 1, most, most, most}) || low != (api.Word{1}) {
		t.Error("Mul(2^256 - 1, 2^256 - 1)", high, low)
	}
}

// TestCmp: P1.1, the order of numbers.
func TestCmp(t *testing.T) {
	pairs(func(a, b api.Word) {
		if got := limbs.Cmp(a, b); got != toBig(a).Cmp(toBig(b)) {
			t.Fatal("Cmp", a, b, got)
		}
	})
	for i := range 4 {
		var low, high api.Word
		low[i], high[i] = 6, 7
		for j := range i {
			low[j] = most
		}
		if limbs.Cmp(low, high) != -1 || limbs.Cmp(high, low) != 1 || limbs.Cmp(low, low) != 0 {
			t.Error("Cmp: of word", i)
		}
	}
}

// TestLen: P1.1, how many bits there are.
func TestLen(t *testing.T) {
	if got := limbs.Len(api.Word{}); got != 0 {
		t.Error("Len(0)", got)
	}
	for i := range 256 {
		if got := limbs.Len(fromBig(power(uint(i)))); got != i+1 {
			t.Error("Len of 2^", i, got)
		}
		if got := limbs.Len(fromBig(new(big.Int).Sub(power(uint(i)), big.NewInt(1)))); got != i {
			t.Error("Len of one less than 2^", i, got)
		}
	}
	s := source(12)
	for range 5000 {
		if a := s.edgy(); limbs.Len(a) != toBig(a).BitLen() {
			t.Fatal("Len", a, limbs.Len(a))
		}
	}
}

// counts are shifts and places that may come in, with those that no number has.
func counts() []int {
	l := []int{math.MinInt, math.MinInt + 1, math.MinInt32, -256, -255, -65, -64, -63, -1, 257, 319, 320, 321, 511, 512, 1 << 16, math.MaxInt32, math.MaxInt - 1, math.MaxInt}
	for i := range 257 {
		l = append(l, i)
	}
	return l
}

// TestBit: P1.1, each place, and those below and above.
func TestBit(t *testing.T) {
	s := source(13)
	l := []api.Word{{}, {most, most, most, most}, {1}, {0, 0, 0, 1 << 63}}
	for range 50 {
		l = append(l, s.edgy())
	}
	for _, a := range l {
		for _, i := range counts() {
			want := 0
			if i >= 0 && i <= 255 {
				want = int(toBig(a).Bit(i))
			}
			if got := limbs.Bit(a, i); got != want {
				t.Fatal("Bit", a, i, got)
			}
		}
	}
}

// TestShifts: P1.1, Shl and Shr by all counts, negative ones and great ones too.
func TestShifts(t *testing.T) {
	s := source(14)
	l := []api.Word{{}, {1}, {most, most, most, most}, {0, 0, 0, 1 << 63}}
	for range 50 {
		l = append(l, s.edgy())
	}
	for _, a := range l {
		for _, n := range counts() {
			up, down := a, a
			if n > 255 {
				up, down = api.Word{}, api.Word{}
			} else if n >= 0 {
				up, down = fromBig(new(big.Int).Lsh(toBig(a), uint(n))), fromBig(new(big.Int).Rsh(toBig(a), uint(n)))
			}
			if got := limbs.Shl(a, n); got != up {
				t.Fatal("Shl", a, n, got)
			}
			if got := limbs.Shr(a, n); got != down {
				t.Fatal("Shr", a, n, got)
			}
		}
	}
}

// TestShiftEdges: P1.1, the edges of the shifts, written out.
func TestShiftEdges(t *testing.T) {
	a := api.Word{3, 0, 0, 1 << 63}
	for _, c := range []struct {
		n        int
		up, down api.Word
	}{
		{-1, a, a},
		{math.MinInt, a, a},
		{0, a, a},
		{1, api.Word{6}, api.Word{1, 0, 0, 1 << 62}},
		{64, api.Word{0, 3}, api.Word{0, 0, 1 << 63}},
		{255, api.Word{0, 0, 0, 1 << 63}, api.Word{1}},
		{256, api.Word{}, api.Word{}},
		{math.MaxInt, api.Word{}, api.Word{}},
	} {
		if up, down := limbs.Shl(a, c.n), limbs.Shr(a, c.n); up != c.up || down != c.down {
			t.Error("by", c.n, up, down)
		}
	}
}
