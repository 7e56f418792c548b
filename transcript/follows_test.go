package transcript_test

import (
	"bytes"
	"math/big"
	"reflect"
	"slices"
	"sync"
	"testing"

	"causeway/api"
	"causeway/transcript"
)

// TestLike: P10.3, like histories lead to like challenges, by whichever calls they were told.
func TestLike(t *testing.T) {
	s := source(107)
	for range 5 {
		h := s.history(6)
		if told(t, h).State() != told(t, h).State() {
			t.Error("like histories", h)
		}
	}
	x, y := begun(t, "a"), begun(t, "a")
	a, p := s.element(), times(7)
	x.Fe("n", a)
	x.Point("p", p)
	say(t, y, absorbedFe("n", a), absorbedPoint("p", p))
	one, _ := x.Draw("c")
	other, _ := y.Draw("c")
	if one != other {
		t.Error("an element and a point, and their bytes", a, p)
	}
}

// unlike are histories of which no two are one: they differ in a label, in bytes, in where a label ends, in kind, in order or in count.
func unlike() []history {
	ab := []said{absorbed("a", []byte("b"))}
	long := bytes.Repeat([]byte{1}, 31)
	return []history{
		{"a", nil}, {"b", nil}, {"a\x00", nil}, {"\x00a", nil}, {"aa", nil},
		{"a", ab}, {"b", ab}, {"a", append(ab, ab...)}, {"a", append(ab, draw("a"))},
		{"a", []said{draw("a"), ab[0]}}, {"a", []said{draw("a")}}, {"a", []said{draw("b")}}, {"a", []said{draw("a"), draw("a")}},
		{"a", []said{draw("a"), draw("b")}}, {"a", []said{draw("b"), draw("a")}},
		{"a", []said{absorbed("a", nil)}}, {"a", []said{absorbed("b", nil)}}, {"a", []said{absorbed("ab", nil)}},
		{"a", []said{absorbed("b", []byte("a"))}}, {"a", []said{absorbed("a", []byte("bc"))}}, {"a", []said{absorbed("ab", []byte("c"))}},
		{"a", []said{absorbed("a", []byte("b\x00"))}}, {"a", []said{absorbed("a", []byte("\x00b"))}},
		{"a", []said{absorbed("a", make([]byte, 1))}}, {"a", []said{absorbed("a", make([]byte, 2))}}, {"a", []said{absorbed("a", make([]byte, 31))}}, {"a", []said{absorbed("a", make([]byte, 32))}},
		{"a", []said{absorbed("a", long)}}, {"a", []said{absorbed("a", append(slices.Clone(long), 0))}}, {"a", []said{absorbed(string(long), []byte("a"))}},
		{"a", []said{absorbed("a", []byte("b")), absorbed("a", []byte("c"))}}, {"a", []said{absorbed("a", []byte("c")), absorbed("a", []byte("b"))}},
		{"a", []said{absorbedFe("a", api.Fe{2})}}, {"a", []said{absorbedFe("a", api.Fe{1})}}, {"a", []said{absorbedPoint("a", times(0))}}, {"a", []said{absorbedPoint("a", times(1))}},
	}
}

// TestUnlike: P10.3, P10.4, unlike histories lead to unlike states and challenges.
func TestUnlike(t *testing.T) {
	seen := map[api.Fe]history{}
	add := func(h history, a api.Fe) {
		t.Helper()
		if other, is := seen[a]; is {
			t.Error("one state", h, other)
		}
		seen[a] = h
	}
	for _, h := range unlike() {
		x := told(t, h)
		add(h, x.State())
		challenge, _ := x.Draw("a challenge")
		add(h, challenge)
	}
}

// TestEachStepCounts: P10.3, what is drawn at the end hangs on each step ahead of it.
func TestEachStepCounts(t *testing.T) {
	drawn := source(108)
	h := drawn.history(10)
	want := told(t, h).State()
	for i, s := range h.steps {
		other := s
		other.label += "x"
		other.label = other.label[1:]
		turned := s
		turned.draw, turned.b = !s.draw, ""
		for _, s := range []said{other, turned} {
			l := slices.Clone(h.steps)
			l[i] = s
			if told(t, history{h.label, l}).State() == want {
				t.Error("a step that doesn't count", i, s)
			}
		}
		if told(t, history{h.label, slices.Delete(slices.Clone(h.steps), i, i+1)}).State() == want {
			t.Error("a step that may be left out", i)
		}
	}
}

// taken takes bytes from the head of elements, as Elements tells them; false if they tell none.
func taken(l []api.Fe) ([]byte, []api.Fe, bool) {
	if len(l) == 0 || !number(l[0]).IsInt64() {
		return nil, nil, false
	}
	count := int(number(l[0]).Int64())
	l = l[1:]
	b := []byte{}
	for len(b) < count {
		size := min(31, count-len(b))
		if len(l) == 0 || number(l[0]).BitLen() > 8*size {
			return nil, nil, false
		}
		b = append(b, number(l[0]).FillBytes(make([]byte, size))...)
		l = l[1:]
	}
	return b, l, true
}

// TestTellsBytes: P10.4, from its elements the way leads back to the bytes; bytes that are nearly alike have unlike elements.
func TestTellsBytes(t *testing.T) {
	s := source(109)
	for _, n := range append(lengths(), 65536) {
		for _, b := range s.kinds(n) {
			if back, rest, is := taken(transcript.Elements(b)); !is || !bytes.Equal(back, b) || len(rest) != 0 {
				t.Error("back", n, is, len(rest))
			}
		}
	}
	for n := range 70 {
		b := make([]byte, n)
		l := transcript.Elements(b)
		if slices.Equal(l, transcript.Elements(make([]byte, n+1))) {
			t.Error("a 0 more", n)
		}
		for i := range b {
			b[i] = 1
			if slices.Equal(l, transcript.Elements(b)) {
				t.Error("a byte that doesn't count", n, i)
			}
			b[i] = 0
		}
	}
}

// TestWayBack: P10.4, on the way back from the ends of two unlike histories, two unlike inputs of Hash come ahead of either one's beginning.
func TestWayBack(t *testing.T) {
	var all [][][]api.Fe
	for _, h := range unlike() {
		l := h.inputs()
		mustBe(t, "the inputs", told(t, h), h)
		slices.Reverse(l)
		all = append(all, l)
	}
	for i, a := range all {
		for _, b := range all[:i] {
			meet := false
			for k := range min(len(a), len(b)) {
				meet = meet || !slices.Equal(a[k], b[k])
			}
			if !meet {
				t.Error("no unlike inputs", i)
			}
		}
	}
}

// TestTellsHistory: P10.4, from the inputs of Hash the way leads back to what was said.
func TestTellsHistory(t *testing.T) {
	s := source(110)
	for range 10 {
		h := s.history(6)
		mustBe(t, "the inputs", told(t, h), h)
		inputs := h.inputs()
		label, rest, is := taken(inputs[0][1:])
		back := history{label: string(label)}
		if !is || len(rest) != 0 || inputs[0][0] != (api.Fe{}) {
			t.Error("the beginning", h, is, rest)
		}
		for _, l := range inputs[1:] {
			label, rest, _ := taken(l[2:])
			step := said{draw: l[0] == api.Fe{2}, label: string(label)}
			if !step.draw {
				b, _, _ := taken(rest)
				step.b = string(b)
			}
			back.steps = append(back.steps, step)
		}
		if !reflect.DeepEqual(back, h) {
			t.Error("back", h, back)
		}
	}
}

// TestCopy: P10.5, a copy made anywhere goes on as the transcript does, whichever of the two goes first.
func TestCopy(t *testing.T) {
	s := source(111)
	h := s.history(8)
	for i := range len(h.steps) + 1 {
		x := told(t, history{h.label, h.steps[:i]})
		first, second := x.Copy(), x.Copy()
		third := first.Copy()
		say(t, first, h.steps[i:]...)
		say(t, x, h.steps[i:]...)
		say(t, second, h.steps[i:]...)
		say(t, third, h.steps[i:]...)
		for _, y := range []*transcript.Transcript{x, first, second, third} {
			mustBe(t, "a copy", y, h)
		}
	}
}

// TestCopyAlone: P10.6, a transcript and its copy share nothing: what is said to one is not said to the other.
func TestCopyAlone(t *testing.T) {
	drawn := source(112)
	h := drawn.history(4)
	x := told(t, h)
	y := x.Copy()
	more := history{h.label, append(slices.Clone(h.steps), draw("x"), absorbed("x", []byte{1}))}
	other := history{h.label, append(slices.Clone(h.steps), absorbed("y", []byte{2}))}
	say(t, x, more.steps[4:]...)
	mustBe(t, "the copy stays", y, h)
	say(t, y, other.steps[4:]...)
	mustBe(t, "the transcript stays", x, more)
	mustBe(t, "the copy goes on", y, other)
	*y = transcript.Transcript{}
	mustBe(t, "the copy is gone", x, more)
}

// TestMemory: P10.6, P2 of DOC.md, bytes that are handed in stay, with what lies behind them, and are not kept; an answer that is written over changes nothing.
func TestMemory(t *testing.T) {
	s := source(113)
	long := s.bytes(300)
	old := slices.Clone(long)
	x := begun(t, "a")
	for _, n := range lengths()[:14] {
		h := history{"a", []said{absorbed("b", long[:n]), draw("c")}}
		want := h.state()
		y := x.Copy()
		y.Bytes("b", long[:n])
		l := transcript.Elements(long[:n])
		if !bytes.Equal(long, old) {
			t.Error("the bytes are changed", n)
		}
		clear(long)
		if challenge, _ := y.Draw("c"); challenge != want || !slices.Equal(l, refElements(old[:n])) {
			t.Error("the bytes are kept", n)
		}
		copy(long, old)
		for i := range l[:cap(l)] {
			l[:cap(l)][i] = above()[5]
		}
		if !bytes.Equal(long, old) || !slices.Equal(transcript.Elements(long[:n]), refElements(old[:n])) {
			t.Error("the elements are kept", n)
		}
	}
	if x.State() != begun(t, "a").State() {
		t.Error("a copy's steps are kept")
	}
}

// TestNothingElse: P3 of DOC.md, transcripts side by side go on as each would alone.
func TestNothingElse(t *testing.T) {
	s := source(114)
	var all []history
	var want []api.Fe
	for range 8 {
		h := s.history(5)
		all, want = append(all, h), append(want, h.state())
	}
	var group sync.WaitGroup
	for i := range all {
		group.Go(func() {
			for n := range 2 * len(all) {
				at := (i + n) % len(all)
				if told(t, all[at]).State() != want[at] {
					t.Error("side by side", at)
				}
			}
		})
	}
	group.Wait()
}

// TestBelow: P10.1, P10.2, states, challenges and elements are below r.
func TestBelow(t *testing.T) {
	x := begun(t, "a")
	for range 50 {
		if a, e := x.Draw("b"); e != api.OK || number(a).Cmp(order()) >= 0 {
			t.Error("Draw", a, e)
		}
	}
	least := new(big.Int).Lsh(big.NewInt(1), 248)
	for _, a := range transcript.Elements(bytes.Repeat([]byte{255}, 1000))[1:] {
		if number(a).Cmp(least) >= 0 {
			t.Error("Elements", a)
		}
	}
}
