package transcript_test

import (
	"testing"

	"causeway/api"
	"causeway/curve"
	"causeway/points"
	"causeway/transcript"
)

// asked is a call to a transcript, under a label.
type asked struct {
	name string
	of   func(x *transcript.Transcript, label string) api.Errno
}

// calls are the four calls that say something; wrong: with what none of them would take.
func calls(wrong bool) []asked {
	b, a, p := []byte{1}, api.Fe{1}, curve.Gen1()
	if wrong {
		b, a, p = make([]byte, 65537), above()[0], api.G1{X: api.Fe{1}, Y: api.Fe{1}}
	}
	return []asked{
		{"Bytes", func(x *transcript.Transcript, label string) api.Errno { return x.Bytes(label, b) }},
		{"Fe", func(x *transcript.Transcript, label string) api.Errno { return x.Fe(label, a) }},
		{"Point", func(x *transcript.Transcript, label string) api.Errno { return x.Point(label, p) }},
		{"Draw", func(x *transcript.Transcript, label string) api.Errno {
			challenge, e := x.Draw(label)
			if e != api.OK && challenge != (api.Fe{}) {
				return -1
			}
			return e
		}},
	}
}

// mustRefuse tells whether the call is refused with that error, and changes nothing.
func mustRefuse(t *testing.T, name string, x *transcript.Transcript, e api.Errno, wrong api.Errno, of history) {
	t.Helper()
	if e != wrong {
		t.Error(name, e, wrong)
	}
	mustBe(t, name, x, of)
}

// TestNotMade: P10.1, P10.2, of a transcript that no New made ErrMade, ahead of all else; its state is 0, and there is no copy.
func TestNotMade(t *testing.T) {
	refused, _ := transcript.New("")
	for _, x := range []*transcript.Transcript{nil, {}, new(transcript.Transcript), refused, (&transcript.Transcript{}).Copy()} {
		for _, wrong := range []bool{false, true} {
			for _, c := range calls(wrong) {
				for _, label := range []string{"a", badLabels()[0], badLabels()[1]} {
					if e := c.of(x, label); e != api.ErrMade {
						t.Error(c.name, label, e)
					}
				}
			}
		}
		if x.State() != (api.Fe{}) || x.Copy() != nil {
			t.Error("State and Copy", x.State(), x.Copy())
		}
	}
}

// TestLabels: P10.1, ErrLabel of a label that is empty or has more than 64 bytes, ahead of what is wrong with the rest.
func TestLabels(t *testing.T) {
	h := history{label: "a"}
	x := begun(t, h.label)
	for _, label := range badLabels() {
		if none, e := transcript.New(label); none != nil || e != api.ErrLabel {
			t.Error("New", len(label), none, e)
		}
		for _, wrong := range []bool{false, true} {
			for _, c := range calls(wrong) {
				mustRefuse(t, c.name, x, c.of(x, label), api.ErrLabel, h)
			}
		}
	}
}

// TestLong: P10.1, ErrLong of more than 65536 bytes.
func TestLong(t *testing.T) {
	h := history{label: "a"}
	x := begun(t, h.label)
	for _, n := range []int{65537, 65538, 131072, 1 << 20} {
		mustRefuse(t, "Bytes", x, x.Bytes("b", make([]byte, n)), api.ErrLong, h)
	}
}

// TestElementRefused: P10.1, ErrElement of one that is not below r.
func TestElementRefused(t *testing.T) {
	h := history{label: "a"}
	x := begun(t, h.label)
	for _, a := range above() {
		mustRefuse(t, "Fe", x, x.Fe("b", a), api.ErrElement, h)
	}
}

// TestPointRefused: P10.1, points.Check1's error.
func TestPointRefused(t *testing.T) {
	h := history{label: "a"}
	x := begun(t, h.label)
	for p, wrong := range badPoints() {
		if e := points.Check1(p); e != wrong {
			t.Error("Check1", p, e, wrong)
		}
		mustRefuse(t, "Point", x, x.Point("b", p), wrong, h)
	}
}

// TestRefusedAmong: P4 of DOC.md, a history goes on as if no call had been refused.
func TestRefusedAmong(t *testing.T) {
	drawn := source(106)
	h := drawn.history(8)
	x := begun(t, h.label)
	for i, s := range h.steps {
		for _, c := range calls(true) {
			c.of(x, badLabels()[i])
			if c.name != "Draw" && c.of(x, "b") == api.OK {
				t.Error("is not refused", c.name)
			}
		}
		say(t, x, s)
	}
	mustBe(t, "among refused calls", x, h)
}
