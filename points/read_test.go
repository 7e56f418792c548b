package points_test

import (
	"bytes"
	"math/big"
	"testing"

	"causeway/api"
	"causeway/curve"
)

// TestRead: P5.3, both forms of what may be.
func TestRead(t *testing.T) {
	testRead(t, one())
	testRead(t, two())
}

func testRead[G comparable](t *testing.T, f face[G]) {
	for _, p := range f.good {
		if got, e := f.read(f.shortOf(p)); got != p || e != api.OK {
			t.Error("Read of Short", f.name, p, got, e)
		}
		if got, e := f.read(f.longOf(p)); got != p || e != api.OK {
			t.Error("Read of Long", f.name, p, got, e)
		}
	}
}

// TestReadCounts: P5.3, ErrCount of all other lengths, ahead of all other errors; P1 and P4 of DOC.md.
func TestReadCounts(t *testing.T) {
	testReadCounts(t, one())
	testReadCounts(t, two())
}

func testReadCounts[G comparable](t *testing.T, f face[G]) {
	refused := func(b []byte) {
		t.Helper()
		f.mustRefuse(t, b, api.ErrCount)
	}
	refused(nil)
	fits := append(f.longOf(f.good[1]), make([]byte, 300)...)
	infinite := append([]byte{0x40}, make([]byte, 400)...)
	for n := range 300 {
		if n == f.whole/2*size || n == f.whole*size {
			continue
		}
		refused(bytes.Repeat([]byte{0xff}, n))
		refused(make([]byte, n))
		refused(infinite[:n])
		refused(fits[:n])
	}
	refused(append(f.shortOf(f.good[1]), 0))
	refused(append(f.longOf(f.good[1]), 0))
	refused(f.shortOf(f.good[1])[1:])
	refused(make([]byte, 1<<20))
}

// TestReadFlags: P5.3, ErrFlag of bits that are none of the form's, ahead of ErrElement and of ErrCurve.
func TestReadFlags(t *testing.T) {
	testReadFlags(t, one())
	testReadFlags(t, two())
}

func testReadFlags[G comparable](t *testing.T, f face[G]) {
	refused := func(b []byte) {
		t.Helper()
		f.mustRefuse(t, b, api.ErrFlag)
	}
	var parts [][]api.Fe
	for _, p := range f.good[:8] {
		l, _ := f.parts(p)
		parts = append(parts, l)
	}
	for i := range f.whole {
		for _, a := range append(above(), api.Fe{5}) {
			l, _ := f.parts(f.with(f.good[1], i, a))
			parts = append(parts, l)
		}
	}
	for i, l := range parts {
		refused(laid(0, l[:f.whole/2]...))
		refused(laid(2, l...))
		refused(laid(3, l...))
		if i > 0 {
			refused(laid(1, l...))
		}
	}
	// Infinity has no other bit, wherever.
	for _, n := range []int{f.whole / 2 * size, f.whole * size} {
		for bit := range 8 * n {
			b := append([]byte{0x40}, make([]byte, n-1)...)
			b[bit/8] ^= 0x80 >> (bit % 8)
			f.mustRead(t, b)
			if bit > 1 {
				refused(b)
			}
		}
		refused(append([]byte{0x7f}, bytes.Repeat([]byte{0xff}, n-1)...))
	}
}

// TestReadElements: P5.3, ErrElement of each part that is not below p, ahead of ErrCurve: X and p is not X.
func TestReadElements(t *testing.T) {
	testReadElements(t, one())
	testReadElements(t, two())
}

func testReadElements[G comparable](t *testing.T, f face[G]) {
	refused := func(b []byte) {
		t.Helper()
		f.mustRefuse(t, b, api.ErrElement)
	}
	half := f.whole / 2
	twice := 0
	for _, p := range append(f.good[1:9], f.of(make([]api.Fe, f.whole), false)) {
		for i := range f.whole {
			l, _ := f.parts(p)
			wrong := above()
			if sum := new(big.Int).Add(number(l[i]), prime()); i > 0 || sum.BitLen() <= 254 {
				wrong = append(wrong, element(sum))
				twice++
			}
			if i > 0 {
				wrong = append(wrong, wider()...)
			}
			for _, a := range wrong {
				l[i] = a
				refused(laid(0, l...))
				if i < half {
					refused(laid(2, l[:half]...))
					refused(laid(3, l[:half]...))
				}
				l[(i+1)%f.whole] = api.Fe{7}
				refused(laid(0, l...))
			}
		}
	}
	if twice < 8*f.whole/2 {
		t.Error("too few parts have a second number of 254 bits", f.name, twice)
	}
	// The highest numbers that are elements are refused for the curve, if at all.
	for i := range f.whole {
		l, _ := f.parts(f.good[1])
		l[i] = element(prime().Sub(prime(), big.NewInt(1)))
		for bits := range byte(4) {
			f.mustRead(t, laid(bits, l...))
			f.mustRead(t, laid(bits, l[:half]...))
		}
	}
}

// TestReadCurve: P5.3, ErrCurve of an X without a Y, and of a Y that is another X's.
func TestReadCurve(t *testing.T) {
	testReadCurve(t, one())
	testReadCurve(t, two())
}

func testReadCurve[G comparable](t *testing.T, f face[G]) {
	half := f.whole / 2
	missing := 0
	for x := range uint64(60) {
		l := make([]api.Fe, f.whole)
		l[half-1] = api.Fe{x}
		for bits := range byte(4) {
			f.mustRead(t, laid(bits, l...))
			f.mustRead(t, laid(bits, l[:half]...))
		}
		if f.root(l[:half]) != nil {
			continue
		}
		missing++
		for bits := byte(2); bits < 4; bits++ {
			f.mustRefuse(t, laid(bits, l[:half]...), api.ErrCurve)
		}
	}
	if missing < 20 {
		t.Error("too few X have no Y", f.name, missing)
	}
	for i, p := range f.good[1:9] {
		own, _ := f.parts(p)
		other, _ := f.parts(f.good[9+i])
		mixed := append(own[:half:half], other[half:]...)
		f.mustRefuse(t, laid(0, mixed...), api.ErrCurve)
		f.mustRefuse(t, laid(0, append(own[:half:half], make([]api.Fe, half)...)...), api.ErrCurve)
	}
}

// TestReadGroup: P5.3, ErrGroup of points of the twist that are not in G2, in both forms and with both roots.
func TestReadGroup(t *testing.T) {
	f := two()
	for _, p := range outside() {
		if e := curve.On2(p); e != api.OK {
			t.Fatal("the test's own point", p, e)
		}
		for _, q := range []api.G2{p, f.negative(p)} {
			for _, b := range [][]byte{f.shortOf(q), f.longOf(q)} {
				f.mustRefuse(t, b, api.ErrGroup)
				f.mustRead(t, b)
			}
		}
	}
}

// TestReadParts: P5.3, the parts of G2 stand B first: in the other order there is no such point.
func TestReadParts(t *testing.T) {
	f := two()
	for _, p := range f.good[1:9] {
		b := laid(0, p.X.A, p.X.B, p.Y.A, p.Y.B)
		f.mustRefuse(t, b, api.ErrCurve)
		f.mustRead(t, b)
	}
}
