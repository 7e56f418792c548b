package transcript_test

import (
	"math/big"
	"slices"
	"testing"

	"causeway/api"
	"causeway/points"
	"causeway/poseidon"
	"causeway/transcript"
)

// The chapter's words taken one by one.

// said is a step as the chapter tells it: bytes that are absorbed under a label, or a draw.
type said struct {
	draw  bool
	label string
	b     string
}

// history is a label to begin with, and the steps behind it.
type history struct {
	label string
	steps []said
}

// refElements are the elements of bytes, by numbers of any size.
func refElements(b []byte) []api.Fe {
	l := []api.Fe{element(big.NewInt(int64(len(b))))}
	for piece := range slices.Chunk(b, 31) {
		n := new(big.Int)
		for _, digit := range piece {
			n.Mul(n, big.NewInt(256)).Add(n, big.NewInt(int64(digit)))
		}
		l = append(l, element(n))
	}
	return l
}

func hash(l []api.Fe) api.Fe {
	digest, e := poseidon.Hash(api.Rounds{Width: 3, Full: 8, Partial: 57}, l)
	if e != api.OK {
		panic("Hash refuses")
	}
	return digest
}

// inputs are all that is handed to Hash, step by step; the hash of the last one is the state.
func (h history) inputs() [][]api.Fe {
	all := [][]api.Fe{slices.Concat([]api.Fe{{0}}, refElements([]byte(h.label)))}
	for _, s := range h.steps {
		state := hash(all[len(all)-1])
		l := slices.Concat([]api.Fe{{1}, state}, refElements([]byte(s.label)), refElements([]byte(s.b)))
		if s.draw {
			l = slices.Concat([]api.Fe{{2}, state}, refElements([]byte(s.label)))
		}
		all = append(all, l)
	}
	return all
}

// state is the one behind all steps.
func (h history) state() api.Fe {
	l := h.inputs()
	return hash(l[len(l)-1])
}

// absorbed, absorbedFe and absorbedPoint are steps that absorb; draw is one that draws.
func absorbed(label string, b []byte) said { return said{label: label, b: string(b)} }

func draw(label string) said { return said{draw: true, label: label} }

func absorbedFe(label string, x api.Fe) said {
	return absorbed(label, number(x).FillBytes(make([]byte, 32)))
}

func absorbedPoint(label string, p api.G1) said {
	b, e := points.Short1(p)
	if e != api.OK {
		panic("Short1 refuses")
	}
	return absorbed(label, b)
}

// say says the steps to x, and tells whether the challenges are the states.
func say(t *testing.T, x *transcript.Transcript, steps ...said) {
	t.Helper()
	for _, s := range steps {
		if !s.draw {
			if e := x.Bytes(s.label, []byte(s.b)); e != api.OK {
				t.Fatal("Bytes", s, e)
			}
			continue
		}
		challenge, e := x.Draw(s.label)
		if e != api.OK || challenge != x.State() {
			t.Fatal("Draw", s, challenge, x.State(), e)
		}
	}
}

// told is the transcript of a history.
func told(t *testing.T, h history) *transcript.Transcript {
	t.Helper()
	x := begun(t, h.label)
	say(t, x, h.steps...)
	return x
}

// mustBe tells whether the transcript stands where the history leads.
func mustBe(t *testing.T, what string, x *transcript.Transcript, h history) {
	t.Helper()
	if got, want := x.State(), h.state(); got != want {
		t.Error(what, h, got, want)
	}
}

// history draws one of so many steps.
func (s *source) history(count int) history {
	h := history{label: s.label()}
	for range count {
		step := draw(s.label())
		if s.word()%2 == 0 {
			step = absorbed(s.label(), s.bytes(int(s.word()%100)))
		}
		h.steps = append(h.steps, step)
	}
	return h
}
