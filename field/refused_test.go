package field_test

import (
	"testing"

	"causeway/api"
	"causeway/field"
)

// TestNoField: P2.1 and P4 of DOC.md, ErrArg goes ahead of all other errors, and nothing stands beside it.
func TestNoField(t *testing.T) {
	all := api.Fe{most, most, most, most}
	for _, f := range others() {
		for _, call := range append(plain(), special()...) {
			for _, a := range []api.Fe{{}, {1}, {2}, all} {
				if none, e := call.of(f, a); !none || e != api.ErrArg {
					t.Error(call.name, "of no field", f, a, none, e)
				}
			}
		}
		if m := field.Modulus(f); m != (api.Word{}) {
			t.Error("Modulus of no field", f, m)
		}
		if none, e := nothing(field.Reduce(f, api.Word{1}, api.Word{2})); !none || e != api.ErrArg {
			t.Error("Reduce of no field", f, e)
		}
		for _, n := range []int{0, 31, 33} {
			if none, e := nothing(field.Read(f, make([]byte, n))); !none || e != api.ErrArg {
				t.Error("Read of no field", f, n, e)
			}
		}
		if l, e := field.Invs(f, filled(65537, all)); len(l) != 0 || e != api.ErrArg {
			t.Error("Invs of no field", f, e)
		}
		if none, e := nothing(field.Dot(f, filled(2, all), filled(1, all))); !none || e != api.ErrArg {
			t.Error("Dot of no field", f, e)
		}
		if l, e := field.Invs(f, nil); len(l) != 0 || e != api.ErrArg {
			t.Error("Invs of no field, of none", f, e)
		}
		if none, e := nothing(field.Dot(f, nil, nil)); !none || e != api.ErrArg {
			t.Error("Dot of no field, of none", f, e)
		}
	}
}

// TestNoElement: P2.1 and P4 of DOC.md, ErrElement goes ahead of ErrZero and ErrSquare, and nothing stands beside it.
func TestNoElement(t *testing.T) {
	for _, f := range both() {
		for _, a := range outside(f) {
			for _, call := range append(plain(), special()...) {
				if none, e := call.of(f, a); !none || e != api.ErrElement {
					t.Error(call.name, "of no element", f, a, none, e)
				}
			}
		}
	}
}

// TestElements: P2.1, what is below the modulus is refused by no call for being none.
func TestElements(t *testing.T) {
	for _, f := range both() {
		l := append(edges(f), api.Fe(less(f, 1)))
		if f == api.FieldP {
			l = append(l, api.Fe(less(api.FieldR, 0)), api.Fe(less(api.FieldR, -1)))
		}
		for _, a := range l {
			for _, call := range append(plain(), special()...) {
				if _, e := call.of(f, a); e == api.ErrElement || e == api.ErrArg || e == api.ErrCount {
					t.Error(call.name, "refuses", f, a, e)
				}
			}
			if e := field.Check(f, a); e != api.OK {
				t.Error("Check", f, a, e)
			}
		}
	}
}

// TestZeroDivisors: P2.2 and P4 of DOC.md, ErrZero, and nothing beside it.
func TestZeroDivisors(t *testing.T) {
	for _, f := range both() {
		if none, e := nothing(field.Inv(f, api.Fe{})); !none || e != api.ErrZero {
			t.Error("Inv of 0", f, e)
		}
		for _, a := range edges(f) {
			if none, e := nothing(field.Div(f, a, api.Fe{})); !none || e != api.ErrZero {
				t.Error("Div by 0", f, a, e)
			}
		}
	}
}

// TestCounts: P2.1, P2.4, P2.5 and P4 of DOC.md, ErrCount goes ahead of ErrElement, and nothing stands beside it.
func TestCounts(t *testing.T) {
	all := api.Fe{most, most, most, most}
	for _, f := range both() {
		for _, n := range []int{0, 1, 31, 33, 64, 1 << 16} {
			b := make([]byte, n)
			for i := range b {
				b[i] = 0xff
			}
			if none, e := nothing(field.Read(f, b)); !none || e != api.ErrCount {
				t.Error("Read of", n, f, e)
			}
		}
		if none, e := nothing(field.Read(f, nil)); !none || e != api.ErrCount {
			t.Error("Read of nil", f, e)
		}
		for _, with := range []api.Fe{{}, {1}, all} {
			if l, e := field.Invs(f, filled(65537, with)); len(l) != 0 || e != api.ErrCount {
				t.Error("Invs of 65537", f, with, len(l), e)
			}
			for _, n := range [][2]int{{0, 1}, {1, 0}, {2, 3}, {65536, 65535}, {65536, 65537}, {65537, 65536}, {65537, 65537}} {
				if none, e := nothing(field.Dot(f, filled(n[0], with), filled(n[1], with))); !none || e != api.ErrCount {
					t.Error("Dot of", n, f, with, e)
				}
			}
		}
	}
}

// TestMostElements: P2.5, lists of 65536 are taken, and an element at their end is looked at.
func TestMostElements(t *testing.T) {
	for _, f := range both() {
		l := filled(65536, field.Of(2))
		half := element(f, toBig(less(f, -1)).Rsh(toBig(less(f, -1)), 1))
		got, e := field.Invs(f, l)
		if e != api.OK || len(got) != 65536 || got[0] != half || got[65535] != half {
			t.Error("Invs of 65536", f, len(got), e)
		}
		if sum, e := field.Dot(f, l, l); sum != field.Of(4*65536) || e != api.OK {
			t.Error("Dot of 65536", f, sum, e)
		}
		last := append(filled(65535, field.Of(2)), api.Fe(less(f, 0)))
		if got, e := field.Invs(f, last); len(got) != 0 || e != api.ErrElement {
			t.Error("Invs, the last one no element", f, e)
		}
		if none, e := nothing(field.Dot(f, l, last)); !none || e != api.ErrElement {
			t.Error("Dot, the last one no element", f, e)
		}
		if none, e := nothing(field.Dot(f, last, l)); !none || e != api.ErrElement {
			t.Error("Dot, the first list's last one no element", f, e)
		}
	}
}
