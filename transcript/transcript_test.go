package transcript_test

import (
	"bytes"
	"math/big"
	"slices"
	"testing"

	"causeway/api"
	"causeway/curve"
	"causeway/points"
	"causeway/transcript"
)

// TestElements: P10.2, how many bytes there are, and each 31 of them as a number; no count of bytes is too great.
func TestElements(t *testing.T) {
	s := source(101)
	for _, n := range append(lengths(), 65535, 65536, 65537, 300000) {
		for _, b := range s.kinds(n) {
			l := transcript.Elements(b)
			if !slices.Equal(l, refElements(b)) || len(l) != 1+(n+30)/31 {
				t.Error("Elements", n, len(l))
			}
		}
	}
}

// TestExamples: the chapter's own.
func TestExamples(t *testing.T) {
	for _, c := range []struct {
		b    []byte
		want []api.Fe
	}{
		{nil, []api.Fe{{}}},
		{[]byte{}, []api.Fe{{}}},
		{[]byte{1, 2}, []api.Fe{{2}, {258}}},
		{make([]byte, 32), []api.Fe{{32}, {}, {}}},
	} {
		if l := transcript.Elements(c.b); !slices.Equal(l, c.want) {
			t.Error("Elements", c.b, l)
		}
	}
	if x, e := transcript.New(""); x != nil || e != api.ErrLabel {
		t.Error("New of no label", x, e)
	}
	if begun(t, "a").State() != hash([]api.Fe{{0}, {1}, {97}}) {
		t.Error("New of a")
	}
}

// TestNew: P10.1, the state is the hash of 0 and the label's elements.
func TestNew(t *testing.T) {
	for _, label := range labels() {
		mustBe(t, "New", begun(t, label), history{label: label})
	}
}

// TestBytes: P10.1, the state behind bytes, from none to the most.
func TestBytes(t *testing.T) {
	s := source(102)
	for _, n := range append(lengths(), 65535, 65536) {
		for _, b := range s.kinds(n) {
			h := history{"a", []said{absorbed("some", b)}}
			mustBe(t, "Bytes", told(t, h), h)
		}
	}
	empty := begun(t, "a")
	say(t, empty, absorbed("some", nil))
	other := begun(t, "a")
	if e := other.Bytes("some", nil); e != api.OK || other.State() != empty.State() {
		t.Error("nil and no bytes", e)
	}
}

// TestStepsLabels: P10.1, the states behind steps of each label, also where both label and bytes are the longest.
func TestStepsLabels(t *testing.T) {
	for _, label := range labels() {
		h := history{label, []said{absorbed(label, []byte{1}), draw(label), draw(label), absorbed(label, make([]byte, 31))}}
		mustBe(t, "labels", told(t, h), h)
	}
	long := labels()[len(labels())-1]
	h := history{long, []said{absorbed(long, bytes.Repeat([]byte{255}, 65536)), draw(long)}}
	if len(long) != 64 || len(h.inputs()[1]) > api.MaxAbsorb {
		t.Error("the longest", len(long), len(h.inputs()[1]))
	}
	mustBe(t, "the longest", told(t, h), h)
}

// TestFe: P10.1, an element's 32 bytes are absorbed.
func TestFe(t *testing.T) {
	s := source(104)
	l := []api.Fe{{}, {1}, {256}, {most}, {0, 1}, {0, 0, 1}, {0, 0, 0, 1}, element(new(big.Int).Lsh(big.NewInt(1), 248)), highest()}
	for range 20 {
		l = append(l, s.element())
	}
	for _, a := range l {
		x := begun(t, "a")
		if e := x.Fe("an element", a); e != api.OK {
			t.Error("Fe", a, e)
		}
		mustBe(t, "Fe", x, history{"a", []said{absorbedFe("an element", a)}})
	}
}

// TestPoint: P10.1, a point's Short1 is absorbed; infinity's too.
func TestPoint(t *testing.T) {
	l := []api.G1{{Inf: true}, curve.Gen1()}
	for n := range uint64(20) {
		p := times(n)
		minus, _ := curve.Neg1(p)
		l = append(l, p, minus)
	}
	for _, p := range l {
		x := begun(t, "a")
		if e := x.Point("a point", p); e != api.OK {
			t.Error("Point", p, e)
		}
		mustBe(t, "Point", x, history{"a", []said{absorbedPoint("a point", p)}})
		short, _ := points.Short1(p)
		if len(short) != 32 {
			t.Error("Short1", p, short)
		}
	}
}

// TestDraw: P10.1, a challenge is the hash of 2, the state and the label's elements, and the new state.
func TestDraw(t *testing.T) {
	x := begun(t, "a")
	for _, label := range append(labels(), labels()...) {
		want := hash(slices.Concat([]api.Fe{{2}, x.State()}, refElements([]byte(label))))
		if got, e := x.Draw(label); got != want || e != api.OK || x.State() != want {
			t.Error("Draw", label, got, want, e)
		}
	}
}

// TestHistories: P10.1, P10.2, the states all along drawn histories, of all kinds of steps.
func TestHistories(t *testing.T) {
	s := source(105)
	for range 10 {
		h := history{label: s.label()}
		x := begun(t, h.label)
		for range 12 {
			label := s.label()
			e := api.OK
			switch s.word() % 4 {
			case 0:
				b := s.bytes(int(s.word() % 200))
				e = x.Bytes(label, b)
				h.steps = append(h.steps, absorbed(label, b))
			case 1:
				a := s.element()
				e = x.Fe(label, a)
				h.steps = append(h.steps, absorbedFe(label, a))
			case 2:
				p := times(s.word())
				e = x.Point(label, p)
				h.steps = append(h.steps, absorbedPoint(label, p))
			default:
				_, e = x.Draw(label)
				h.steps = append(h.steps, draw(label))
			}
			if e != api.OK {
				t.Error("a step", h, e)
			}
			mustBe(t, "a history", x, h)
		}
	}
}
