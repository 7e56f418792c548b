package jubjub_test

import (
	"math/big"
	"slices"
	"testing"

	"causeway/api"
	"causeway/jubjub"
)

// TestRefused: P11.2 and P4 of DOC.md, a point that is not On is refused, whichever of the two it is and whatever the number, and nothing stands beside the error.
func TestRefused(t *testing.T) {
	var none api.Ed
	points := append(offCurve(), jubjub.Base())
	for _, p := range points {
		for _, q := range points {
			want := api.ErrCurve
			if p == jubjub.Base() && q == p {
				want = api.OK
			}
			if got, e := jubjub.Add(p, q); e != want || e != api.OK && got != none {
				t.Error("Add", p, q, got, e)
			}
		}
	}
	for _, p := range offCurve() {
		if got, e := jubjub.Neg(p); got != none || e != api.ErrCurve {
			t.Error("Neg", p, got, e)
		}
		for _, n := range []*big.Int{whole(0), whole(1), whole(2), order(), new(big.Int).Sub(top(), whole(1))} {
			if got, e := jubjub.Mul(p, word(n)); got != none || e != api.ErrCurve {
				t.Error("Mul", p, n, got, e)
			}
		}
		if got, e := jubjub.Bytes(p); len(got) != 0 || e != api.ErrCurve {
			t.Error("Bytes", p, got, e)
		}
	}
}

// TestOutside: P11.2 and P11.3, points of the curve that are not of the group may be added, and have no bytes.
func TestOutside(t *testing.T) {
	for _, p := range outside(201) {
		if got, e := jubjub.Bytes(p.ed()); len(got) != 0 || e != api.ErrPoint {
			t.Error("Bytes", p, got, e)
		}
		if got, e := jubjub.Read(p.bytes()); got != (api.Ed{}) || e != api.ErrPoint {
			t.Error("Read", p, got, e)
		}
		got, e := jubjub.Add(p.ed(), jubjub.Base())
		mustBe(t, "Add", got, e, p.plus(base()))
		got, e = jubjub.Mul(p.ed(), word(order()))
		mustBe(t, "Mul", got, e, p.times(order()))
	}
}

// lowestFirst are the bytes of a number below 2^255, and the bit.
func lowestFirst(n *big.Int, high bool) []byte {
	b := n.FillBytes(make([]byte, size))
	slices.Reverse(b)
	if high {
		b[31] |= 128
	}
	return b
}

// mustRefuse tells whether Read answers the error, and nothing beside it.
func mustRefuse(t *testing.T, b []byte, wrong api.Errno) {
	t.Helper()
	if got, e := jubjub.Read(b); got != (api.Ed{}) || e != wrong {
		t.Error("Read", len(b), b, got, e, "and not", wrong)
	}
}

// TestReadCount: P11.3 and P4 of DOC.md, ErrCount ahead of all else.
func TestReadCount(t *testing.T) {
	mustRefuse(t, nil, api.ErrCount)
	for _, n := range []int{0, 1, 31, 33, 63, 64, 65, 1000} {
		for _, fill := range []byte{0, 1, 255} {
			b := make([]byte, n)
			for i := range b {
				b[i] = fill
			}
			mustRefuse(t, b, api.ErrCount)
		}
	}
	b, _ := jubjub.Bytes(jubjub.Base())
	mustRefuse(t, b[:31], api.ErrCount)
	mustRefuse(t, b[1:], api.ErrCount)
	mustRefuse(t, append(b, 0), api.ErrCount)
}

// TestReadElement: P11.3, numbers from r on, up to all 255 bits, with the bit and without it; of them those that are modulo r the Y of a point.
func TestReadElement(t *testing.T) {
	end := new(big.Int).Lsh(whole(1), 255)
	var l []*big.Int
	for _, n := range []int64{0, 1, 2, 3} {
		l = append(l, new(big.Int).Add(modulus(), whole(n)), new(big.Int).Sub(end, whole(1+n)), new(big.Int).Add(new(big.Int).Rsh(end, 1), whole(n)))
	}
	for _, p := range onCurve(202) {
		l = append(l, new(big.Int).Add(modulus(), p.y))
	}
	l = append(l, new(big.Int).Lsh(modulus(), 1))
	for _, n := range l {
		if n.Cmp(end) < 0 {
			mustRefuse(t, lowestFirst(n, false), api.ErrElement)
			mustRefuse(t, lowestFirst(n, true), api.ErrElement)
		}
	}
	// The last one below r is Y of (0, -1).
	mustRefuse(t, lowestFirst(new(big.Int).Sub(modulus(), whole(1)), false), api.ErrPoint)
}

// TestReadCurve: P11.3, each Y that no point has, with the bit and without it.
func TestReadCurve(t *testing.T) {
	s := source(203)
	count := 0
	for range 60 {
		y := s.residue()
		if _, is := withY(y, false); is {
			continue
		}
		mustRefuse(t, lowestFirst(y, false), api.ErrCurve)
		mustRefuse(t, lowestFirst(y, true), api.ErrCurve)
		count++
	}
	if count < 15 {
		t.Error("too few", count)
	}
}

// TestReadFlag: P11.3 and P4 of DOC.md, X is 0 for two Y alone, and the bit then goes ahead of what is not of the group.
func TestReadFlag(t *testing.T) {
	minus := new(big.Int).Sub(modulus(), whole(1))
	mustRefuse(t, lowestFirst(whole(1), true), api.ErrFlag)
	mustRefuse(t, lowestFirst(minus, true), api.ErrFlag)
	mustRefuse(t, lowestFirst(minus, false), api.ErrPoint)
	got, e := jubjub.Read(lowestFirst(whole(1), false))
	mustBe(t, "Read of Neutral", got, e, neutral())
	// Both points whose Y is 0 are of order 4.
	mustRefuse(t, lowestFirst(whole(0), false), api.ErrPoint)
	mustRefuse(t, lowestFirst(whole(0), true), api.ErrPoint)
}
