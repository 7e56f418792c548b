package points_test

import (
	"bytes"
	"sync"
	"testing"

	"causeway/api"
)

// TestOneForm: P5.4, what Read takes is Short's or Long's answer to it; of each point's bytes all are looked at that differ by a bit.
func TestOneForm(t *testing.T) {
	testOneForm(t, one(), 16)
	testOneForm(t, two(), 2)
}

func testOneForm[G comparable](t *testing.T, f face[G], some int) {
	taken := 0
	for _, p := range f.good[:some] {
		for _, b := range [][]byte{f.shortOf(p), f.longOf(p)} {
			for bit := range 8 * len(b) {
				b[bit/8] ^= 0x80 >> (bit % 8)
				f.mustRead(t, b)
				if q, e := f.read(b); e == api.OK {
					taken++
					f.mustTell(t, q, b)
				}
				b[bit/8] ^= 0x80 >> (bit % 8)
			}
			f.mustTell(t, p, b)
		}
	}
	if taken < some/2 {
		t.Error("too few of the bytes are taken", f.name, taken)
	}
}

// mustTell tells whether the bytes are one of the point's two forms.
func (f face[G]) mustTell(t *testing.T, p G, b []byte) {
	t.Helper()
	short, e := f.short(p)
	long, again := f.long(p)
	if e != api.OK || again != api.OK || !bytes.Equal(short, b) && !bytes.Equal(long, b) {
		t.Errorf("Read%s takes %x, which is neither %x nor %x: %d, %d", f.name, b, short, long, e, again)
	}
}

// TestTwins: P5.5, the two points with one X have one Short but for one bit.
func TestTwins(t *testing.T) {
	testTwins(t, one())
	testTwins(t, two())
}

func testTwins[G comparable](t *testing.T, f face[G]) {
	for _, p := range f.good[1:] {
		twin := f.negative(p)
		short, e := f.short(p)
		other, again := f.short(twin)
		if e != api.OK || again != api.OK || p == twin {
			t.Fatal("Short", f.name, p, e, again)
		}
		other[0] ^= 0x40
		if !bytes.Equal(short, other) {
			t.Error("Short of the twin", f.name, p, short, other)
		}
		short[0] ^= 0x40
		if got, e := f.read(short); got != twin || e != api.OK {
			t.Error("Read of the other bit", f.name, p, got, e)
		}
	}
}

// TestSums: P5.5, sums of points that may be may be.
func TestSums(t *testing.T) {
	testSums(t, one())
	testSums(t, two())
}

func testSums[G comparable](t *testing.T, f face[G]) {
	for i, p := range f.good {
		q := f.good[(5*i+3)%len(f.good)]
		sum, e := f.add(p, q)
		if e != api.OK || f.check(sum) != api.OK {
			t.Error("Check of a sum", f.name, p, q, sum, e)
		}
		b, e := f.short(sum)
		if got, again := f.read(b); got != sum || e != api.OK || again != api.OK {
			t.Error("Read of a sum", f.name, p, q, sum, e, again)
		}
	}
}

// TestWhateverIsGiven: P1 and P4 of DOC.md, there is an answer to all bytes and points, and beside an error nothing.
func TestWhateverIsGiven(t *testing.T) {
	testWhateverIsGiven(t, one())
	testWhateverIsGiven(t, two())
}

func testWhateverIsGiven[G comparable](t *testing.T, f face[G]) {
	for fill := range 256 {
		for _, n := range []int{f.whole / 2 * size, f.whole * size} {
			b := bytes.Repeat([]byte{byte(fill)}, n)
			f.mustRead(t, b)
			b[n-1] ^= 1
			f.mustRead(t, b)
		}
		word := uint64(fill) * 0x0101_0101_0101_0101
		for _, infinite := range []bool{false, true} {
			l := make([]api.Fe, f.whole)
			for i := range l {
				l[i] = api.Fe{word, word, word, word >> (i % 3)}
			}
			p := f.of(l, infinite)
			wrong := f.check(p)
			short, e := f.short(p)
			long, again := f.long(p)
			if e != wrong || again != wrong || wrong != api.OK && (len(short) != 0 || len(long) != 0) {
				t.Error("bytes of any point", f.name, p, wrong, e, again)
			}
		}
	}
	f.mustRefuse(t, nil, api.ErrCount)
	f.mustRefuse(t, []byte{}, api.ErrCount)
}

// TestNothingElse: P3 of DOC.md, calls side by side answer what they answer alone.
func TestNothingElse(t *testing.T) {
	f, g := one(), two()
	var group sync.WaitGroup
	for i := range 8 {
		group.Go(func() {
			for range 10 {
				f.mustTell(t, f.good[i], f.shortOf(f.good[i]))
				f.mustTell(t, f.good[i], f.longOf(f.good[i]))
				g.mustTell(t, g.good[i], g.shortOf(g.good[i]))
				g.mustRead(t, g.shortOf(g.good[i]))
				f.mustRead(t, f.shortOf(f.good[i]))
			}
		})
	}
	group.Wait()
}
