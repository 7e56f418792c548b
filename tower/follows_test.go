package tower_test

import (
	"sync"
	"testing"

	"causeway/api"
	"causeway/field"
	"causeway/tower"
)

// ring is one of the three fields' sums and products.
type ring[E comparable] struct {
	name       string
	draw       func() E
	plus, less func(a, b E) E
	times      func(a, b E) E
	minus      func(a E) E
	inverse    func(a E) (E, api.Errno)
	one        E
}

// sum12 and less12 are Fp12's, by those of Fp6.
func sum12(a, b api.E12) api.E12 {
	return api.E12{A: tower.Add6(a.A, b.A), B: tower.Add6(a.B, b.B)}
}
func less12(a, b api.E12) api.E12 {
	return api.E12{A: tower.Sub6(a.A, b.A), B: tower.Sub6(a.B, b.B)}
}
func minus12(a api.E12) api.E12 { return api.E12{A: tower.Neg6(a.A), B: tower.Neg6(a.B)} }

// checkLaws: what holds in a field.
func checkLaws[E comparable](t *testing.T, f ring[E]) {
	var zero E
	for range 400 {
		a, b, c := f.draw(), f.draw(), f.draw()
		if f.plus(a, b) != f.plus(b, a) || f.times(a, b) != f.times(b, a) {
			t.Fatal(f.name, "not commutative", a, b)
		}
		if f.plus(f.plus(a, b), c) != f.plus(a, f.plus(b, c)) || f.times(f.times(a, b), c) != f.times(a, f.times(b, c)) {
			t.Fatal(f.name, "not associative", a, b, c)
		}
		if f.times(a, f.plus(b, c)) != f.plus(f.times(a, b), f.times(a, c)) {
			t.Fatal(f.name, "not one over the other", a, b, c)
		}
		if f.plus(a, f.minus(a)) != zero || f.less(a, b) != f.plus(a, f.minus(b)) || f.minus(f.minus(a)) != a {
			t.Fatal(f.name, "negatives", a, b)
		}
		if f.plus(a, zero) != a || f.times(a, f.one) != a || f.times(a, zero) != zero {
			t.Fatal(f.name, "0 or one", a)
		}
		inverse, e := f.inverse(a)
		if a == zero {
			continue
		}
		if back, wrong := f.inverse(inverse); e != api.OK || wrong != api.OK || f.times(a, inverse) != f.one || back != a {
			t.Fatal(f.name, "inverse", a, inverse, e)
		}
	}
}

// TestFields: P3.4, all three are fields.
func TestFields(t *testing.T) {
	s := source(600)
	one := tower.One12()
	checkLaws(t, ring[api.E2]{"Fp2", s.two, tower.Add2, tower.Sub2, tower.Mul2, tower.Neg2, tower.Inv2, one.A.A})
	checkLaws(t, ring[api.E6]{"Fp6", s.six, tower.Add6, tower.Sub6, tower.Mul6, tower.Neg6, tower.Inv6, one.A})
	checkLaws(t, ring[api.E12]{"Fp12", s.twelve, sum12, less12, tower.Mul12, minus12, tower.Inv12, one})
}

// TestOneInAnother: P3.1, each field lies in the next one: sums and products there are its own, and v and w are as said.
func TestOneInAnother(t *testing.T) {
	s := source(610)
	for range 200 {
		a, b := s.six(), s.six()
		if tower.Mul12(of6(a), of6(b)) != of6(tower.Mul6(a, b)) || tower.Mul6(api.E6{A: a.A}, api.E6{A: b.A}) != (api.E6{A: tower.Mul2(a.A, b.A)}) {
			t.Fatal("products", a, b)
		}
		if tower.Mul12(api.E12{B: a}, api.E12{B: b}) != of6(tower.V6(tower.Mul6(a, b))) {
			t.Fatal("w^2", a, b)
		}
		if v := (api.E6{B: api.E2{A: api.Fe{1}}}); tower.Mul6(a, v) != tower.V6(a) {
			t.Fatal("v", a)
		}
		if xi := (api.E2{A: api.Fe{9}, B: api.Fe{1}}); tower.Mul2(a.B, xi) != tower.Xi2(a.B) {
			t.Fatal("9 + u", a.B)
		}
		if norm := tower.Mul2(a.C, tower.Conj2(a.C)); norm.B != (api.Fe{}) {
			t.Fatal("the norm is in Fp", a.C, norm)
		}
	}
}

// TestFrobeniusFollows: P3.5, a map of fields, whose twelfth is nothing and whose sixth is the conjugate.
func TestFrobeniusFollows(t *testing.T) {
	s := source(620)
	p := field.Modulus(api.FieldP)
	for range 60 {
		a, b := s.twelve(), s.twelve()
		n, m := int(s.word()%25)-12, int(s.word()%25)-12
		if tower.Frob12(tower.Mul12(a, b), n) != tower.Mul12(tower.Frob12(a, n), tower.Frob12(b, n)) {
			t.Fatal("of a product", n, a, b)
		}
		if tower.Frob12(sum12(a, b), n) != sum12(tower.Frob12(a, n), tower.Frob12(b, n)) {
			t.Fatal("of a sum", n, a, b)
		}
		if tower.Frob12(tower.Frob12(a, n), m) != tower.Frob12(a, n+m) {
			t.Fatal("one behind the other", n, m, a)
		}
		turned := a
		for range 12 {
			turned = tower.Frob12(turned, 1)
		}
		if turned != a || tower.Frob12(a, 0) != a || tower.Frob12(a, 12) != a || tower.Frob12(a, 6) != tower.Conj12(a) || tower.Frob12(a, -6) != tower.Conj12(a) {
			t.Fatal("by 12 and by 6", a)
		}
	}
	for range 5 {
		if a := s.twelve(); tower.Frob12(a, 1) != tower.Exp12(a, p) {
			t.Fatal("Exp12 by p", a)
		}
	}
}

// TestPartsAboveP: the chapter's Words, of parts at p and above each call answers as of them modulo p, and what it answers may be.
func TestPartsAboveP(t *testing.T) {
	s := source(630)
	for range 150 {
		a, b := s.element(s.raw), s.element(s.raw)
		for _, c := range calls() {
			got := c.of(a, b)
			if got != c.of(reduced(a), reduced(b)) || !mayBe(got.value) {
				t.Fatal(c.name, a, b, got)
			}
		}
	}
	// One part alone above.
	for i := range 12 {
		a := s.twelve()
		b := a
		x := parts(&b)[i]
		*x = ofBig(toBig(*x).Add(toBig(*x), prime()))
		for _, c := range calls() {
			if c.of(a, a) != c.of(b, a) || c.of(a, a) != c.of(a, b) {
				t.Fatal(c.name, i, a, b)
			}
		}
		in := cyclotomic(a)
		above := in
		x = parts(&above)[i]
		*x = ofBig(toBig(*x).Add(toBig(*x), prime()))
		if square, e := tower.Cyclo12(above); !tower.InCyclo(above) || square != tower.Square12(in) || e != api.OK {
			t.Fatal("Cyclo12", i, above, square, e)
		}
	}
}

// TestWhateverIsGiven: P1 and P4 of DOC.md, there is an answer to all numbers, and beside an error, or a false, nothing.
func TestWhateverIsGiven(t *testing.T) {
	s := source(640)
	all := api.Fe{most, most, most, most}
	l := append(zeros(), s.element(func() api.Fe { return all }), s.element(s.number2))
	for _, a := range l {
		for _, b := range l {
			for _, c := range calls() {
				if got := c.of(a, b); got.wrong != api.OK && got.value != (api.E12{}) {
					t.Fatal(c.name, a, b, got)
				}
			}
		}
	}
}

// number2 draws four words as a part.
func (s *source) number2() api.Fe { return s.number() }

// TestMemory: P3.7, P2 and P3 of DOC.md: what is handed in stays, and a call answers the same again, whatever was called between.
func TestMemory(t *testing.T) {
	s := source(650)
	for range 20 {
		a, b := s.element(s.raw), s.element(s.raw)
		kept := [2]api.E12{a, b}
		first := map[string]answer{}
		for _, c := range calls() {
			first[c.name] = c.of(a, b)
		}
		for _, c := range calls() {
			c.of(b, a)
			if got := c.of(a, b); got != first[c.name] {
				t.Fatal(c.name, "answers another time", got)
			}
		}
		if kept != [2]api.E12{a, b} {
			t.Fatal("changed", a, b)
		}
	}
	one := tower.One12()
	one.A.A.A = api.Fe{2}
	if tower.One12().A.A.A != (api.Fe{1}) {
		t.Error("One12 changed")
	}
}

// TestNothingElse: P3 of DOC.md, calls side by side answer what they answer alone.
func TestNothingElse(t *testing.T) {
	s := source(660)
	a, b := s.element(s.raw), s.element(s.raw)
	want := make([]answer, len(calls()))
	for i, c := range calls() {
		want[i] = c.of(a, b)
	}
	var group sync.WaitGroup
	for range 8 {
		group.Go(func() {
			for i, c := range calls() {
				if got := c.of(a, b); got != want[i] {
					t.Error(c.name, got, want[i])
				}
			}
		})
	}
	group.Wait()
}
