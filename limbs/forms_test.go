package limbs_test

import (
	"bytes"
	"math/big"
	"strings"
	"testing"

	"causeway/api"
	"causeway/limbs"
)

// TestBytes: P1.3, 32 bytes, the highest first.
func TestBytes(t *testing.T) {
	s := source(31)
	l := edges()
	for range 2000 {
		l = append(l, s.edgy())
	}
	for _, a := range l {
		if got := limbs.Bytes(a); !bytes.Equal(got, toBig(a).FillBytes(make([]byte, 32))) {
			t.Fatal("Bytes", a, got)
		}
	}
	got := limbs.Bytes(api.Word{0x18191a1b1c1d1e1f, 0x1011121314151617, 0x08090a0b0c0d0e0f, 0x0001020304050607})
	for i, b := range got {
		if int(b) != i {
			t.Error("Bytes: place", i, b)
		}
	}
}

// TestRead: P1.3, the number of 32 bytes, and other lengths.
func TestRead(t *testing.T) {
	s := source(32)
	for range 2000 {
		b := make([]byte, 32)
		for i := range b {
			b[i] = byte(s.word() >> 20)
		}
		if got, e := limbs.Read(b); got != fromBig(new(big.Int).SetBytes(b)) || e != api.OK {
			t.Fatal("Read", b, got, e)
		}
	}
	if got, e := limbs.Read(bytes.Repeat([]byte{0xff}, 32)); got != (api.Word{most, most, most, most}) || e != api.OK {
		t.Error("Read of 2^256 - 1", got, e)
	}
	for _, b := range [][]byte{nil, {}, {1}, bytes.Repeat([]byte{1}, 31), bytes.Repeat([]byte{1}, 33), bytes.Repeat([]byte{1}, 64), make([]byte, 1<<16)} {
		if got, e := limbs.Read(b); got != (api.Word{}) || e != api.ErrCount {
			t.Error("Read of", len(b), got, e)
		}
	}
}

// TestPrint: P1.4, decimal digits without a 0 ahead, zeros within.
func TestPrint(t *testing.T) {
	s := source(33)
	l := edges()
	for n := range 78 {
		ten := new(big.Int).Exp(big.NewInt(10), big.NewInt(int64(n)), nil)
		l = append(l, fromBig(ten), fromBig(new(big.Int).Sub(ten, big.NewInt(1))), fromBig(new(big.Int).Add(ten, big.NewInt(1))))
	}
	for range 2000 {
		l = append(l, limbs.Shr(s.edgy(), int(s.word()%256)))
	}
	for _, a := range l {
		if got := limbs.Print(a); got != toBig(a).String() {
			t.Fatal("Print", a, got)
		}
	}
	for want, a := range map[string]api.Word{
		"0":                    {},
		"7":                    {7},
		"10000000000000000000": {10_000_000_000_000_000_000},
		"18446744073709551616": {0, 1},
		"115792089237316195423570985008687907853269984665640564039457584007913129639935": {most, most, most, most},
	} {
		if got := limbs.Print(a); got != want {
			t.Error("Print", a, got)
		}
	}
}

// TestParse: P1.4, numbers up to 2^256 - 1.
func TestParse(t *testing.T) {
	s := source(34)
	l := edges()
	for range 5000 {
		l = append(l, limbs.Shr(s.edgy(), int(s.word()%256)))
	}
	for _, a := range l {
		if got, e := limbs.Parse(toBig(a).String()); got != a || e != api.OK {
			t.Fatal("Parse", a, got, e)
		}
	}
}

// TestParseWords: P1.4 and P4 of DOC.md, texts that are no number's form.
func TestParseWords(t *testing.T) {
	long := strings.Repeat("9", 100)
	for _, text := range []string{
		"", " ", "00", "01", "007", "0" + long, "-1", "-0", "+1", "-", " 1", "1 ", "1\n", "1\x00", "1_000", "1.0", "1e3", "0x1f", "a", "1a", "a1",
		"/", ":", "1/", "1:", "\xff", "1\xff", "\u0661", "\u0661\u0662", "\uff11", "1\u0660", long + "x", "x" + long, long + "-",
		"115792089237316195423570985008687907853269984665640564039457584007913129639936 ",
	} {
		if got, e := limbs.Parse(text); got != (api.Word{}) || e != api.ErrWord {
			t.Errorf("Parse(%q): %v %v", text, got, e)
		}
	}
}

// TestParseRange: P1.4 and P4 of DOC.md, numbers of 2^256 and above.
func TestParseRange(t *testing.T) {
	next := power(256)
	for range 300 {
		if got, e := limbs.Parse(next.String()); got != (api.Word{}) || e != api.ErrRange {
			t.Fatal("Parse", next, got, e)
		}
		next.Add(next, big.NewInt(1))
	}
	ten := new(big.Int).Exp(big.NewInt(10), big.NewInt(77), nil)
	for n := int64(1); n < 100; n++ {
		number := new(big.Int).Mul(ten, big.NewInt(n))
		want := api.OK
		if number.Cmp(power(256)) >= 0 {
			want = api.ErrRange
		}
		if got, e := limbs.Parse(number.String()); e != want || e == api.OK && got != fromBig(number) {
			t.Error("Parse", number, got, e)
		}
	}
	for _, text := range []string{
		"115792089237316195423570985008687907853269984665640564039457584007913129639936",
		strings.Repeat("9", 78), strings.Repeat("9", 79), "1" + strings.Repeat("0", 78), "1" + strings.Repeat("0", 1<<20),
		power(257).String(), power(320).String(), new(big.Int).Mul(power(256), big.NewInt(10)).String(),
	} {
		if got, e := limbs.Parse(text); got != (api.Word{}) || e != api.ErrRange {
			t.Error("Parse of", len(text), "digits", got, e)
		}
	}
}
