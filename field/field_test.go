package field_test

import (
	"bytes"
	"math/big"
	"testing"

	"causeway/api"
	"causeway/field"
)

// TestModulus: P2.1, the document's moduli.
func TestModulus(t *testing.T) {
	for _, f := range both() {
		if got := field.Modulus(f); toBig(got).Cmp(modulus(f)) != 0 {
			t.Error("Modulus", f, got)
		}
	}
}

// TestOf: P2.1, the element n of both fields.
func TestOf(t *testing.T) {
	for _, n := range []uint64{0, 1, 2, 1 << 32, 1 << 63, most} {
		got := field.Of(n)
		if got != (api.Fe{n}) || field.Check(api.FieldP, got) != api.OK || field.Check(api.FieldR, got) != api.OK {
			t.Error("Of", n, got)
		}
	}
}

// TestSums: P2.2, Add, Sub and Neg.
func TestSums(t *testing.T) {
	for _, f := range both() {
		pairs(f, 20000, func(a, b api.Fe) {
			if got, e := field.Add(f, a, b); got != element(f, new(big.Int).Add(toBig(a), toBig(b))) || e != api.OK {
				t.Fatal("Add", f, a, b, got, e)
			}
			if got, e := field.Sub(f, a, b); got != element(f, new(big.Int).Sub(toBig(a), toBig(b))) || e != api.OK {
				t.Fatal("Sub", f, a, b, got, e)
			}
			if got, e := field.Neg(f, a); got != element(f, new(big.Int).Neg(toBig(a))) || e != api.OK {
				t.Fatal("Neg", f, a, got, e)
			}
		})
	}
}

// TestSumEdges: P2.2, the ends of the field, written out.
func TestSumEdges(t *testing.T) {
	for _, f := range both() {
		last := api.Fe(less(f, 1))
		if got, e := field.Add(f, last, field.Of(1)); got != (api.Fe{}) || e != api.OK {
			t.Error("Add(m - 1, 1)", f, got, e)
		}
		if got, e := field.Add(f, last, last); got != api.Fe(less(f, 2)) || e != api.OK {
			t.Error("Add(m - 1, m - 1)", f, got, e)
		}
		if got, e := field.Sub(f, api.Fe{}, field.Of(1)); got != last || e != api.OK {
			t.Error("Sub(0, 1)", f, got, e)
		}
		if got, e := field.Sub(f, last, last); got != (api.Fe{}) || e != api.OK {
			t.Error("Sub(m - 1, m - 1)", f, got, e)
		}
		if got, e := field.Neg(f, api.Fe{}); got != (api.Fe{}) || e != api.OK {
			t.Error("Neg(0)", f, got, e)
		}
		if got, e := field.Neg(f, field.Of(1)); got != last || e != api.OK {
			t.Error("Neg(1)", f, got, e)
		}
		if got, e := field.Mul(f, last, last); got != field.Of(1) || e != api.OK {
			t.Error("Mul(m - 1, m - 1)", f, got, e)
		}
	}
}

// TestMul: P2.2, products.
func TestMul(t *testing.T) {
	for _, f := range both() {
		pairs(f, 60000, func(a, b api.Fe) {
			if got, e := field.Mul(f, a, b); got != element(f, new(big.Int).Mul(toBig(a), toBig(b))) || e != api.OK {
				t.Fatal("Mul", f, a, b, got, e)
			}
		})
	}
}

// TestMulEnds: P2.2, products that are the ends of the field: where a last difference is taken once too often or too seldom, they show it.
func TestMulEnds(t *testing.T) {
	for _, f := range both() {
		s := source(60 + f)
		for range 500 {
			a := toBig(s.element(f))
			if a.Sign() == 0 {
				continue
			}
			inverse := new(big.Int).ModInverse(a, modulus(f))
			for end := int64(-2); end <= 2; end++ {
				b := element(f, new(big.Int).Mul(inverse, big.NewInt(end)))
				if got, e := field.Mul(f, element(f, a), b); got != whole(f, end) || e != api.OK {
					t.Fatal("Mul to", end, f, a, b, got, e)
				}
			}
		}
	}
}

// TestDiv: P2.2, Inv and Div.
func TestDiv(t *testing.T) {
	for _, f := range both() {
		l := edges(f)
		s := source(70 + f)
		for range 300 {
			l = append(l, s.element(f))
		}
		for i, b := range l {
			if b == (api.Fe{}) {
				continue
			}
			inverse := new(big.Int).ModInverse(toBig(b), modulus(f))
			if got, e := field.Inv(f, b); got != element(f, inverse) || e != api.OK {
				t.Fatal("Inv", f, b, got, e)
			}
			for _, a := range []api.Fe{{}, {1}, api.Fe(less(f, 1)), b, l[(i*7+5)%len(l)]} {
				if got, e := field.Div(f, a, b); got != element(f, new(big.Int).Mul(toBig(a), inverse)) || e != api.OK {
					t.Fatal("Div", f, a, b, got, e)
				}
			}
		}
		if got, e := field.Inv(f, field.Of(2)); got != element(f, new(big.Int).Rsh(toBig(less(f, -1)), 1)) || e != api.OK {
			t.Error("Inv(2)", f, got, e)
		}
	}
}

// TestExp: P2.2, powers, and the power 0.
func TestExp(t *testing.T) {
	for _, f := range both() {
		s := source(80 + f)
		numbers := []api.Word{{}, {1}, {2}, {3}, {5}, {most}, {0, 1}, {0, 0, 1}, {0, 0, 0, 1}, {0, 0, 0, 1 << 63}, {most, most, most, most}, less(f, 0), less(f, 1), less(f, 2), less(f, -1)}
		for range 20 {
			numbers = append(numbers, s.edgy(f))
		}
		for _, n := range numbers {
			for _, a := range []api.Fe{{}, {1}, {2}, api.Fe(less(f, 1)), s.element(f), s.element(f)} {
				want := element(f, new(big.Int).Exp(toBig(a), toBig(n), modulus(f)))
				if got, e := field.Exp(f, a, n); got != want || e != api.OK {
					t.Fatal("Exp", f, a, n, got, e)
				}
			}
		}
		if got, e := field.Exp(f, api.Fe{}, api.Word{}); got != field.Of(1) || e != api.OK {
			t.Error("Exp(0, 0)", f, got, e)
		}
		if got, e := field.Exp(f, api.Fe{}, api.Word{0, 1}); got != (api.Fe{}) || e != api.OK {
			t.Error("Exp(0, 2^64)", f, got, e)
		}
	}
}

// TestReduce: P2.4, numbers of 512 bits.
func TestReduce(t *testing.T) {
	all := api.Word{most, most, most, most}
	for _, f := range both() {
		check := func(high, low api.Word) {
			number := new(big.Int).Add(new(big.Int).Lsh(toBig(high), 256), toBig(low))
			if got, e := field.Reduce(f, high, low); got != element(f, number) || e != api.OK {
				t.Fatal("Reduce", f, high, low, got, e)
			}
		}
		s := source(90 + f)
		for range 20000 {
			check(s.edgy(f), s.edgy(f))
		}
		for _, high := range []api.Word{{}, {1}, all, less(f, 0), less(f, 1)} {
			for _, low := range []api.Word{{}, {1}, all, less(f, 0), less(f, 1), less(f, -1)} {
				check(high, low)
			}
		}
		if got, e := field.Reduce(f, api.Word{}, field.Modulus(f)); got != (api.Fe{}) || e != api.OK {
			t.Error("Reduce of the modulus", f, got, e)
		}
	}
}

// TestBytes: P2.4, 32 bytes, the highest first.
func TestBytes(t *testing.T) {
	for _, f := range both() {
		l := edges(f)
		s := source(100 + f)
		for range 2000 {
			l = append(l, s.element(f))
		}
		for _, a := range l {
			if got, e := field.Bytes(f, a); !bytes.Equal(got, toBig(a).FillBytes(make([]byte, 32))) || e != api.OK {
				t.Fatal("Bytes", f, a, got, e)
			}
		}
	}
}

// TestRead: P2.4, the element of 32 bytes; one at the modulus or above is none.
func TestRead(t *testing.T) {
	for _, f := range both() {
		s := source(110 + f)
		l := []*big.Int{big.NewInt(0), modulus(f), toBig(less(f, 1)), toBig(less(f, -1)), new(big.Int).Sub(power(256), big.NewInt(1))}
		for range 5000 {
			l = append(l, toBig(s.edgy(f)))
		}
		for _, n := range l {
			want, wrong := api.Fe(fromBig(n)), api.OK
			if n.Cmp(modulus(f)) >= 0 {
				want, wrong = api.Fe{}, api.ErrElement
			}
			if got, e := field.Read(f, n.FillBytes(make([]byte, 32))); got != want || e != wrong {
				t.Fatal("Read", f, n, got, e)
			}
		}
	}
}

// TestInvs: P2.5, of each its inverse, and 0 of 0, wherever it stands.
func TestInvs(t *testing.T) {
	for _, f := range both() {
		s := source(120 + f)
		for n := range 40 {
			l := make([]api.Fe, n)
			for i := range l {
				if s.word()%4 != 0 {
					l[i] = s.element(f)
				}
			}
			got, e := field.Invs(f, l)
			if e != api.OK || len(got) != n {
				t.Fatal("Invs", f, n, len(got), e)
			}
			for i, a := range l {
				want := api.Fe{}
				if a != want {
					want = element(f, new(big.Int).ModInverse(toBig(a), modulus(f)))
				}
				if got[i] != want {
					t.Fatal("Invs", f, l, i, got[i])
				}
			}
		}
		for _, l := range [][]api.Fe{nil, {}, {{}}, {{}, {}, {}}} {
			got, e := field.Invs(f, l)
			if e != api.OK || len(got) != len(l) {
				t.Fatal("Invs of zeros", f, l, got, e)
			}
			for _, a := range got {
				if a != (api.Fe{}) {
					t.Error("Invs of zeros", f, l, got)
				}
			}
		}
	}
}

// TestDot: P2.5, the sum of the products, place by place.
func TestDot(t *testing.T) {
	for _, f := range both() {
		s := source(130 + f)
		for n := range 60 {
			a, b := make([]api.Fe, n), make([]api.Fe, n)
			sum := new(big.Int)
			for i := range n {
				a[i], b[i] = s.element(f), s.element(f)
				sum.Add(sum, new(big.Int).Mul(toBig(a[i]), toBig(b[i])))
			}
			if got, e := field.Dot(f, a, b); got != element(f, sum) || e != api.OK {
				t.Fatal("Dot", f, n, got, e)
			}
		}
		last := api.Fe(less(f, 1))
		if got, e := field.Dot(f, filled(1000, last), filled(1000, last)); got != field.Of(1000) || e != api.OK {
			t.Error("Dot of ends", f, got, e)
		}
		if got, e := field.Dot(f, nil, []api.Fe{}); got != (api.Fe{}) || e != api.OK {
			t.Error("Dot of none", f, got, e)
		}
	}
}
