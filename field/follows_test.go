package field_test

import (
	"bytes"
	"math/big"
	"slices"
	"strings"
	"sync"
	"testing"

	"causeway/api"
	"causeway/field"
	"causeway/limbs"
)

// sure takes an answer that may have no error.
func sure(t *testing.T) func(a api.Fe, e api.Errno) api.Fe {
	return func(a api.Fe, e api.Errno) api.Fe {
		t.Helper()
		if e != api.OK {
			t.Fatal("an error", e)
		}
		return a
	}
}

// TestFieldLaws: P2.6, commutative, associative, one over the other; opposites.
func TestFieldLaws(t *testing.T) {
	ok := sure(t)
	for _, f := range both() {
		add := func(a, b api.Fe) api.Fe { return ok(field.Add(f, a, b)) }
		mul := func(a, b api.Fe) api.Fe { return ok(field.Mul(f, a, b)) }
		s := source(170 + f)
		pairs(f, 5000, func(a, b api.Fe) {
			c := s.element(f)
			if add(a, b) != add(b, a) || mul(a, b) != mul(b, a) {
				t.Fatal("not commutative", f, a, b)
			}
			if add(add(a, b), c) != add(a, add(b, c)) || mul(mul(a, b), c) != mul(a, mul(b, c)) {
				t.Fatal("not associative", f, a, b, c)
			}
			if mul(a, add(b, c)) != add(mul(a, b), mul(a, c)) {
				t.Fatal("not one over the other", f, a, b, c)
			}
			if add(a, api.Fe{}) != a || mul(a, field.Of(1)) != a || mul(a, api.Fe{}) != (api.Fe{}) {
				t.Fatal("0 or 1", f, a)
			}
			if negative := ok(field.Neg(f, a)); add(a, negative) != (api.Fe{}) || ok(field.Neg(f, negative)) != a || ok(field.Sub(f, b, a)) != add(b, negative) {
				t.Fatal("Neg", f, a, negative)
			}
		})
		for range 300 {
			a, b := s.element(f), s.element(f)
			if a == (api.Fe{}) {
				continue
			}
			inverse := ok(field.Inv(f, a))
			if mul(a, inverse) != field.Of(1) || ok(field.Inv(f, inverse)) != a || ok(field.Div(f, b, a)) != mul(b, inverse) || mul(ok(field.Div(f, b, a)), a) != b {
				t.Fatal("Inv", f, a, inverse)
			}
		}
	}
}

// TestFermat: P2.7, powers by the modulus, by 2 less, by sums and by products of numbers.
func TestFermat(t *testing.T) {
	ok := sure(t)
	for _, f := range both() {
		m := field.Modulus(f)
		two, _ := limbs.Sub(m, api.Word{2})
		s := source(180 + f)
		for _, a := range append(edges(f), s.element(f), s.element(f), s.element(f)) {
			if ok(field.Exp(f, a, m)) != a {
				t.Fatal("Exp by the modulus", f, a)
			}
			if a != (api.Fe{}) && ok(field.Exp(f, a, two)) != ok(field.Inv(f, a)) {
				t.Fatal("Exp by the modulus less 2", f, a)
			}
			n, k := limbs.Shr(s.number(), 1), limbs.Shr(s.number(), 1)
			sum, _ := limbs.Add(n, k)
			if ok(field.Exp(f, a, sum)) != ok(field.Mul(f, ok(field.Exp(f, a, n)), ok(field.Exp(f, a, k)))) {
				t.Fatal("Exp by a sum", f, a, n, k)
			}
			n, k = limbs.Shr(n, 127), limbs.Shr(k, 128)
			_, product := limbs.Mul(n, k)
			if ok(field.Exp(f, a, product)) != ok(field.Exp(f, ok(field.Exp(f, a, n)), k)) {
				t.Fatal("Exp by a product", f, a, n, k)
			}
		}
	}
}

// legendreOf is Legendre's answer as an element.
func legendreOf(t *testing.T, f api.Field, a api.Fe) api.Fe {
	t.Helper()
	n, e := field.Legendre(f, a)
	if e != api.OK || n < -1 || n > 1 {
		t.Fatal("Legendre", f, a, n, e)
	}
	return whole(f, int64(n))
}

// TestEuler: P2.8, Legendre and Exp by the half; of products; -1 in Fp; Sqrt's square.
func TestEuler(t *testing.T) {
	ok := sure(t)
	for _, f := range both() {
		half := limbs.Shr(field.Modulus(f), 1)
		s := source(190 + f)
		l := edges(f)
		for range 200 {
			l = append(l, s.element(f))
		}
		for i, a := range l {
			symbol := legendreOf(t, f, a)
			if symbol != ok(field.Exp(f, a, half)) {
				t.Fatal("Legendre is not Exp by the half", f, a)
			}
			b := l[(i*5+3)%len(l)]
			if legendreOf(t, f, ok(field.Mul(f, a, b))) != ok(field.Mul(f, symbol, legendreOf(t, f, b))) {
				t.Fatal("Legendre of a product", f, a, b)
			}
			negative := legendreOf(t, f, ok(field.Neg(f, a)))
			if f == api.FieldP && a != (api.Fe{}) && negative == symbol || f == api.FieldR && negative != symbol {
				t.Fatal("Legendre of the negative", f, a)
			}
			root, e := field.Sqrt(f, a)
			if (e == api.OK) == (symbol == whole(f, -1)) || e != api.OK && e != api.ErrSquare {
				t.Fatal("Sqrt and Legendre", f, a, e)
			}
			if lower, _ := field.Lower(f, root); e == api.OK && (ok(field.Mul(f, root, root)) != a || !lower) {
				t.Fatal("Sqrt", f, a, root)
			}
		}
	}
}

// TestFormsBack: P2.9, Read of Bytes; Reduce of a number and of its rest.
func TestFormsBack(t *testing.T) {
	ok := sure(t)
	for _, f := range both() {
		pairs(f, 1000, func(a, b api.Fe) {
			text, e := field.Bytes(f, a)
			if e != api.OK || len(text) != 32 || ok(field.Read(f, text)) != a {
				t.Fatal("Read of Bytes", f, a, text, e)
			}
			if ok(field.Reduce(f, api.Word{}, api.Word(a))) != a {
				t.Fatal("Reduce of an element", f, a)
			}
			high, low := limbs.Mul(api.Word(a), api.Word(b))
			rest := ok(field.Reduce(f, high, low))
			if rest != ok(field.Mul(f, a, b)) || ok(field.Reduce(f, api.Word{}, api.Word(rest))) != rest {
				t.Fatal("Reduce of a product", f, a, b, rest)
			}
		})
		s := source(200 + f)
		for range 2000 {
			high, low := s.edgy(f), s.edgy(f)
			rest, _ := limbs.Mod(high, low, field.Modulus(f))
			if ok(field.Reduce(f, high, low)) != api.Fe(rest) || ok(field.Reduce(f, api.Word{}, rest)) != api.Fe(rest) {
				t.Fatal("Reduce of the rest", f, high, low)
			}
		}
	}
}

// TestListsAreTheirPlaces: P2.5, Invs is Inv of each, Dot the sum of Mul of each.
func TestListsAreTheirPlaces(t *testing.T) {
	ok := sure(t)
	for _, f := range both() {
		l := edges(f)
		got, e := field.Invs(f, l)
		if e != api.OK || len(got) != len(l) {
			t.Fatal("Invs", f, len(got), e)
		}
		var sum api.Fe
		for i, a := range l {
			if a != (api.Fe{}) && got[i] != ok(field.Inv(f, a)) || a == (api.Fe{}) && got[i] != a {
				t.Fatal("Invs", f, a, got[i])
			}
			sum = ok(field.Add(f, sum, ok(field.Mul(f, a, l[len(l)-1-i]))))
		}
		turned := slices.Clone(l)
		slices.Reverse(turned)
		if ok(field.Dot(f, l, turned)) != sum {
			t.Fatal("Dot", f, sum)
		}
	}
}

// TestMemory: P2.10 (P2 of DOC.md), nothing handed in is changed or kept, nothing answered is shared.
func TestMemory(t *testing.T) {
	ok := sure(t)
	for _, f := range both() {
		a := api.Fe{1, 2, 3, 4}
		first, _ := field.Bytes(f, a)
		second, _ := field.Bytes(f, a)
		want := toBig(a).FillBytes(make([]byte, 32))
		clear(first)
		if again, _ := field.Bytes(f, a); !bytes.Equal(second, want) || !bytes.Equal(again, want) {
			t.Error("Bytes shares its answer", second, again)
		}
		read := ok(field.Read(f, second))
		if !bytes.Equal(second, want) {
			t.Error("Read changed its bytes", second)
		}
		clear(second)
		if read != a || ok(field.Read(f, want)) != a {
			t.Error("Read kept its bytes", read)
		}
		s := source(210 + f)
		l := append(edges(f), s.element(f), s.element(f))
		before := slices.Clone(l)
		one, _ := field.Invs(f, l)
		kept := slices.Clone(one)
		dot := ok(field.Dot(f, l, l))
		if !slices.Equal(l, before) {
			t.Error("a list that was handed in is changed", f)
		}
		two, _ := field.Invs(f, l)
		clear(two)
		clear(l)
		if !slices.Equal(one, kept) {
			t.Error("Invs shares its answer", f)
		}
		if three, _ := field.Invs(f, before); !slices.Equal(three, kept) || ok(field.Dot(f, before, before)) != dot {
			t.Error("Invs or Dot kept its list", f)
		}
	}
}

// answers is what all calls answer of these arguments, as one text.
func answers(f api.Field, a, b api.Fe, high, low api.Word, list []byte) string {
	var out strings.Builder
	tell := func(x api.Fe, e api.Errno) {
		out.WriteString(limbs.Print(api.Word(x)) + " " + limbs.Print(api.Word{uint64(e)}) + "\n")
	}
	tell(field.Add(f, a, b))
	tell(field.Sub(f, a, b))
	tell(field.Mul(f, a, b))
	tell(field.Neg(f, a))
	tell(field.Inv(f, a))
	tell(field.Div(f, a, b))
	tell(field.Exp(f, a, high))
	tell(field.Sqrt(f, a))
	tell(field.Reduce(f, high, low))
	tell(field.Read(f, list))
	tell(field.Dot(f, []api.Fe{a, b}, []api.Fe{b, a}))
	tell(field.Of(low[0]), field.Check(f, a))
	tell(api.Fe(field.Modulus(f)), api.OK)
	symbol, e := field.Legendre(f, a)
	tell(field.Of(uint64(symbol+1)), e)
	lower, e := field.Lower(f, a)
	if lower {
		tell(field.Of(1), e)
	}
	text, e := field.Bytes(f, a)
	tell(field.Of(0), e)
	out.Write(text)
	inverses, e := field.Invs(f, []api.Fe{b, {}, a})
	for _, x := range inverses {
		tell(x, e)
	}
	return out.String()
}

// TestWhateverIsGiven: P1 of DOC.md, no call panics, and each ends.
func TestWhateverIsGiven(t *testing.T) {
	lists := [][]byte{nil, {}, make([]byte, 31), make([]byte, 32), make([]byte, 1<<16)}
	fields := append(others(), both()...)
	for i, f := range fields {
		numbers := append(outside(api.FieldR), edges(api.FieldP)...)
		for j, a := range numbers {
			b := numbers[(j*7+i)%len(numbers)]
			answers(f, a, b, api.Word(b), api.Word(a), lists[(i+j)%len(lists)])
		}
	}
}

// TestNothingElse: P3 of DOC.md, the same answers again, and side by side.
func TestNothingElse(t *testing.T) {
	run := func() string {
		s := source(220)
		out := ""
		for i := range 40 {
			f := both()[i%2]
			a, b := s.element(f), s.element(f)
			out += answers(f, a, b, s.number(), s.number(), toBig(b).FillBytes(make([]byte, 32)))
		}
		return out
	}
	want := run()
	got := make([]string, 8)
	var group sync.WaitGroup
	for i := range got {
		group.Go(func() { got[i] = run() })
	}
	group.Wait()
	for i := range got {
		if got[i] != want {
			t.Fatal("another answer in run", i)
		}
	}
}

// TestExamples: the chapter's examples.
func TestExamples(t *testing.T) {
	ok := sure(t)
	p, r := api.FieldP, api.FieldR
	last := api.Fe(less(r, 1))
	if got := ok(field.Mul(r, last, last)); got != field.Of(1) {
		t.Error("Mul(r - 1, r - 1)", got)
	}
	half := new(big.Int).Rsh(new(big.Int).Add(modulus(p), big.NewInt(1)), 1)
	if got := ok(field.Inv(p, field.Of(2))); got != element(p, half) {
		t.Error("Inv(2)", got)
	}
	if got := ok(field.Sqrt(r, field.Of(4))); got != field.Of(2) {
		t.Error("Sqrt(4)", got)
	}
	if got, e := field.Read(p, modulus(p).FillBytes(make([]byte, 32))); got != (api.Fe{}) || e != api.ErrElement {
		t.Error("Read of p", got, e)
	}
	if got := ok(field.Reduce(r, api.Word{}, fromBig(modulus(r)))); got != (api.Fe{}) {
		t.Error("Reduce of r", got)
	}
}
