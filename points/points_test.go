package points_test

import (
	"bytes"
	"testing"

	"causeway/api"
	"causeway/curve"
	"causeway/points"
)

// TestExamples: the chapter's examples.
func TestExamples(t *testing.T) {
	short := append([]byte{0x80}, make([]byte, 31)...)
	short[31] = 1
	if got, e := points.Short1(curve.Gen1()); !bytes.Equal(got, short) || e != api.OK {
		t.Error("Short1 of the generator", got, e)
	}
	if got, e := points.Short1(api.G1{Inf: true}); !bytes.Equal(got, append([]byte{0x40}, make([]byte, 31)...)) || e != api.OK {
		t.Error("Short1 of infinity", got, e)
	}
	if got, e := points.Read1(make([]byte, 32)); got != (api.G1{}) || e != api.ErrFlag {
		t.Error("Read1 of 0", got, e)
	}
	long := make([]byte, 64)
	long[31], long[63] = 1, 2
	if got, e := points.Long1(curve.Gen1()); !bytes.Equal(got, long) || e != api.OK {
		t.Error("Long1 of the generator", got, e)
	}
	short[31] = 4
	if got, e := points.Read1(short); got != (api.G1{}) || e != api.ErrCurve {
		t.Error("Read1 of X 4", got, e)
	}
}

// TestSecondForm: the form's words, the generator of G2 in the document's digits, B ahead of A.
func TestSecondForm(t *testing.T) {
	g := []api.Fe{
		element(digits("11559732032986387107991004021392285783925812861821192530917403151452391805634")),
		element(digits("10857046999023057135944570762232829481370756359578518086990519993285655852781")),
		element(digits("4082367875863433681332203403145435568316851327593401208105741076214120093531")),
		element(digits("8495653923123431417604973247489272438418190587263600148770280649306958101930")),
	}
	// 4082.. is below the half of p.
	if got, e := points.Short2(curve.Gen2()); !bytes.Equal(got, laid(2, g[:2]...)) || e != api.OK {
		t.Error("Short2 of the generator", got, e)
	}
	if got, e := points.Long2(curve.Gen2()); !bytes.Equal(got, laid(0, g...)) || e != api.OK {
		t.Error("Long2 of the generator", got, e)
	}
	if got, e := points.Short2(api.G2{Inf: true}); !bytes.Equal(got, append([]byte{0x40}, make([]byte, 63)...)) || e != api.OK {
		t.Error("Short2 of infinity", got, e)
	}
	if got, e := points.Long2(api.G2{Inf: true}); !bytes.Equal(got, append([]byte{0x40}, make([]byte, 127)...)) || e != api.OK {
		t.Error("Long2 of infinity", got, e)
	}
}

// TestCheck: P5.1, what may be, and what may not.
func TestCheck(t *testing.T) {
	testCheck(t, one())
	testCheck(t, two())
}

func testCheck[G comparable](t *testing.T, f face[G]) {
	for _, p := range f.good {
		if e := f.check(p); e != api.OK {
			t.Error("Check", f.name, p, e)
		}
	}
	for _, bad := range f.bad {
		if e := f.check(bad.point); e != bad.wrong {
			t.Error("Check", f.name, bad, e)
		}
	}
}

// TestBytes: P5.2, both forms of what may be.
func TestBytes(t *testing.T) {
	testBytes(t, one())
	testBytes(t, two())
}

func testBytes[G comparable](t *testing.T, f face[G]) {
	lower, higher := false, false
	for _, p := range f.good {
		short, e := f.short(p)
		if !bytes.Equal(short, f.shortOf(p)) || e != api.OK {
			t.Error("Short", f.name, p, short, e)
			continue
		}
		lower, higher = lower || short[0]>>6 == 2, higher || short[0]>>6 == 3
		if long, e := f.long(p); !bytes.Equal(long, f.longOf(p)) || e != api.OK {
			t.Error("Long", f.name, p, long, e)
		}
	}
	if !lower || !higher {
		t.Error("the test's points have not both roots", f.name)
	}
}

// TestBytesRefused: P5.2 and P4 of DOC.md, Check's error, and no byte beside it.
func TestBytesRefused(t *testing.T) {
	testBytesRefused(t, one())
	testBytesRefused(t, two())
}

func testBytesRefused[G comparable](t *testing.T, f face[G]) {
	for _, bad := range f.bad {
		if got, e := f.short(bad.point); len(got) != 0 || e != bad.wrong {
			t.Error("Short", f.name, bad, got, e)
		}
		if got, e := f.long(bad.point); len(got) != 0 || e != bad.wrong {
			t.Error("Long", f.name, bad, got, e)
		}
	}
}

// TestMemory: P5.6, P2 and P3 of DOC.md: bytes that are handed in stay, and answers are new memory.
func TestMemory(t *testing.T) {
	testMemory(t, one())
	testMemory(t, two())
}

func testMemory[G comparable](t *testing.T, f face[G]) {
	for _, p := range f.good[:3] {
		for _, call := range []func(G) ([]byte, api.Errno){f.short, f.long} {
			first, e := call(p)
			if e != api.OK {
				t.Fatal("bytes", f.name, p, e)
			}
			kept := bytes.Clone(first)
			second, _ := call(p)
			for i := range first[:cap(first)] {
				first[:cap(first)][i] = 0xaa
			}
			if third, e := call(p); !bytes.Equal(second, kept) || !bytes.Equal(third, kept) || e != api.OK {
				t.Error("bytes share memory", f.name, p, second, third, e)
			}
			if got, e := f.read(second); got != p || e != api.OK || !bytes.Equal(second, kept) {
				t.Error("Read changes its bytes", f.name, p, got, e)
			}
		}
	}
	// What is refused stays, too.
	for _, n := range []int{0, 1, f.whole / 2 * size, f.whole * size} {
		b := bytes.Repeat([]byte{0xff}, n)
		f.read(b)
		if !bytes.Equal(b, bytes.Repeat([]byte{0xff}, n)) {
			t.Error("Read changes bytes that it refuses", f.name, n)
		}
	}
}
