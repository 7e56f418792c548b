package limbs_test

import (
	"bytes"
	"math"
	"strings"
	"sync"
	"testing"

	"causeway/api"
	"causeway/limbs"
)

// TestThereAndBack: P1.5, Sub of Add, and Div with Mul and Add.
func TestThereAndBack(t *testing.T) {
	pairs(func(a, b api.Word) {
		sum, carry := limbs.Add(a, b)
		if back, borrow := limbs.Sub(sum, b); back != a || borrow != carry {
			t.Fatal("Sub of Add", a, b, back, carry, borrow)
		}
		by := b[0]
		quotient, rest, e := limbs.Div(a, by)
		if by == 0 {
			return
		}
		high, low := limbs.Mul(quotient, api.Word{by})
		back, over := limbs.Add(low, api.Word{rest})
		if e != api.OK || rest >= by || high != (api.Word{}) || over != 0 || back != a {
			t.Fatal("Div there and back", a, by, quotient, rest, e)
		}
	})
}

// TestMulLaws: P1.5, commutative, over sums, and by powers of two a shift.
func TestMulLaws(t *testing.T) {
	s := source(41)
	for range 20000 {
		a, b, c := s.edgy(), s.edgy(), s.edgy()
		high, low := limbs.Mul(a, b)
		if h, l := limbs.Mul(b, a); h != high || l != low {
			t.Fatal("Mul is not commutative", a, b)
		}
		// a (b + c) is a b + a c, told in three parts; the sum's carry stands for a times 2^256.
		sum, carry := limbs.Add(b, c)
		leftHigh, leftLow := limbs.Mul(a, sum)
		leftTop := uint64(0)
		if carry == 1 {
			leftHigh, leftTop = limbs.Add(leftHigh, a)
		}
		otherHigh, otherLow := limbs.Mul(a, c)
		rightLow, between := limbs.Add(low, otherLow)
		rightHigh, first := limbs.Add(high, otherHigh)
		rightHigh, second := limbs.Add(rightHigh, api.Word{between})
		if leftLow != rightLow || leftHigh != rightHigh || leftTop != first+second {
			t.Fatal("Mul over a sum", a, b, c)
		}
	}
	for n := range 256 {
		a := s.edgy()
		if _, low := limbs.Mul(a, limbs.Shl(api.Word{1}, n)); low != limbs.Shl(a, n) {
			t.Fatal("Shl is not Mul by a power of two", a, n)
		}
		if high, _ := limbs.Mul(a, limbs.Shl(api.Word{1}, n)); n > 0 && high != limbs.Shr(a, 256-n) {
			t.Fatal("Shr is not Mul's higher half", a, n)
		}
	}
}

// TestMulMod: P1.5, what Mul answers, modulo m, is the product of the rests, modulo m.
func TestMulMod(t *testing.T) {
	s := source(42)
	for range 20000 {
		a, b, m := s.edgy(), s.edgy(), s.edgy()
		if m == (api.Word{}) {
			continue
		}
		high, low := limbs.Mul(a, b)
		got, e := limbs.Mod(high, low, m)
		restA, _ := limbs.Mod(api.Word{}, a, m)
		restB, _ := limbs.Mod(api.Word{}, b, m)
		high, low = limbs.Mul(restA, restB)
		want, _ := limbs.Mod(high, low, m)
		if e != api.OK || got != want || limbs.Cmp(got, m) != -1 {
			t.Fatal("Mod of Mul", a, b, m, got, want)
		}
	}
}

// TestFormsBack: P1.6, Read of Bytes, Parse of Print, and the order of Bytes.
func TestFormsBack(t *testing.T) {
	pairs(func(a, b api.Word) {
		if back, e := limbs.Read(limbs.Bytes(a)); back != a || e != api.OK {
			t.Fatal("Read of Bytes", a, back, e)
		}
		if limbs.Cmp(a, b) != bytes.Compare(limbs.Bytes(a), limbs.Bytes(b)) {
			t.Fatal("Cmp is not the order of Bytes", a, b)
		}
	})
	s := source(43)
	for range 5000 {
		a := limbs.Shr(s.edgy(), int(s.word()%256))
		if back, e := limbs.Parse(limbs.Print(a)); back != a || e != api.OK {
			t.Fatal("Parse of Print", a, back, e)
		}
	}
}

// TestMemory: P1.7 (P2 of DOC.md), nothing handed in is changed or kept, nothing answered is shared.
func TestMemory(t *testing.T) {
	a := api.Word{1, 2, 3, 4}
	first, second := limbs.Bytes(a), limbs.Bytes(a)
	for i := range first {
		first[i] = 0xaa
	}
	_ = append(first, 1, 2, 3)
	want := make([]byte, 32)
	want[31], want[23], want[15], want[7] = 1, 2, 3, 4
	if !bytes.Equal(second, want) || !bytes.Equal(limbs.Bytes(a), want) || a != (api.Word{1, 2, 3, 4}) {
		t.Error("Bytes shares its answer", second, a)
	}
	handed := append([]byte(nil), want...)
	got, _ := limbs.Read(handed)
	if !bytes.Equal(handed, want) {
		t.Error("Read changed its bytes", handed)
	}
	clear(handed)
	if again, _ := limbs.Read(want); got != a || again != a {
		t.Error("Read kept its bytes", got, again)
	}
}

// TestArgumentsStay: P1.7 (P2 of DOC.md), numbers handed in are what they were.
func TestArgumentsStay(t *testing.T) {
	a, b, m := api.Word{most, 5, most, 7}, api.Word{9, most, 11, 12}, api.Word{13, 14, 15, 16}
	limbs.Add(a, b)
	limbs.Sub(a, b)
	limbs.Mul(a, b)
	limbs.Cmp(a, b)
	limbs.Shl(a, 65)
	limbs.Shr(a, 65)
	limbs.Div(a, 3)
	limbs.Mod(a, b, m)
	limbs.Print(a)
	if a != (api.Word{most, 5, most, 7}) || b != (api.Word{9, most, 11, 12}) || m != (api.Word{13, 14, 15, 16}) {
		t.Error("an argument changed", a, b, m)
	}
}

// answers is what all calls answer of these arguments, as one text.
func answers(a, b, m api.Word, n int, text string, list []byte) string {
	var out strings.Builder
	tell := func(l ...api.Word) {
		for _, x := range l {
			out.WriteString(limbs.Print(x))
			out.WriteByte(' ')
		}
	}
	small := func(l ...int) {
		for _, x := range l {
			tell(api.Word{uint64(x)})
		}
	}
	sum, carry := limbs.Add(a, b)
	difference, borrow := limbs.Sub(a, b)
	high, low := limbs.Mul(a, b)
	quotient, rest, e1 := limbs.Div(a, b[0])
	modulo, e2 := limbs.Mod(a, b, m)
	read, e3 := limbs.Read(list)
	parsed, e4 := limbs.Parse(text)
	tell(sum, difference, high, low, limbs.Shl(a, n), limbs.Shr(a, n), quotient, modulo, read, parsed)
	tell(api.Word{carry, borrow, rest})
	small(limbs.Cmp(a, b), limbs.Len(a), limbs.Bit(a, n), int(e1), int(e2), int(e3), int(e4))
	out.Write(limbs.Bytes(a))
	return out.String()
}

// TestWhateverIsGiven: P1 of DOC.md, no call panics, and each ends.
func TestWhateverIsGiven(t *testing.T) {
	texts := []string{"", "0", "-", "\xff\xfe", "\u0661", strings.Repeat("9", 1<<16), strings.Repeat("0", 1<<16), strings.Repeat("x", 1<<16)}
	lists := [][]byte{nil, {}, make([]byte, 31), make([]byte, 32), make([]byte, 1<<16)}
	l := edges()
	for i, a := range l {
		for j, n := range []int{math.MinInt, -1, 0, 1, 63, 64, 255, 256, math.MaxInt} {
			answers(a, l[(i*7+j)%len(l)], l[(i*31+j*5)%len(l)], n, texts[(i+j)%len(texts)], lists[(i+j)%len(lists)])
		}
	}
}

// TestNothingElse: P3 of DOC.md, the same answers again, and side by side.
func TestNothingElse(t *testing.T) {
	const rounds = 200
	run := func() []string {
		s := source(44)
		out := make([]string, rounds)
		for i := range out {
			a, b, m := s.edgy(), s.edgy(), s.edgy()
			out[i] = answers(a, b, m, int(s.word()%300)-20, limbs.Print(b), limbs.Bytes(m))
		}
		return out
	}
	want := run()
	got := make([][]string, 8)
	var group sync.WaitGroup
	for i := range got {
		group.Go(func() { got[i] = run() })
	}
	group.Wait()
	for i := range got {
		for j := range want {
			if got[i][j] != want[j] {
				t.Fatal("another answer in run", i, "round", j)
			}
		}
	}
}
