package limbs_test

import (
	"math/big"
	"testing"

	"causeway/api"
	"causeway/limbs"
)

// TestDiv: P1.2, the quotient and the rest.
func TestDiv(t *testing.T) {
	s := source(21)
	check := func(a api.Word, by uint64) {
		divisor := new(big.Int).SetUint64(by)
		quotient, rest := new(big.Int).QuoRem(toBig(a), divisor, new(big.Int))
		if q, r, e := limbs.Div(a, by); q != fromBig(quotient) || r != rest.Uint64() || e != api.OK {
			t.Fatal("Div", a, by, q, r, e)
		}
	}
	for _, a := range edges() {
		for _, by := range []uint64{1, 2, 3, 10, 1 << 32, 1<<63 - 1, 1 << 63, most - 1, most} {
			check(a, by)
		}
	}
	for range 20000 {
		check(s.edgy(), s.word()>>(s.word()%64)|1)
	}
}

// TestDivByZero: P1.2 and P4 of DOC.md, nothing beside the error.
func TestDivByZero(t *testing.T) {
	for _, a := range []api.Word{{}, {7}, {most, most, most, most}} {
		if q, r, e := limbs.Div(a, 0); q != (api.Word{}) || r != 0 || e != api.ErrZero {
			t.Error("Div by 0", a, q, r, e)
		}
	}
}

// checkMod holds Mod against another program's answer.
func checkMod(t *testing.T, high, low, m api.Word) {
	t.Helper()
	number := new(big.Int).Add(new(big.Int).Lsh(toBig(high), 256), toBig(low))
	want := fromBig(number.Mod(number, toBig(m)))
	if got, e := limbs.Mod(high, low, m); got != want || e != api.OK {
		t.Fatal("Mod", high, low, m, got, e)
	}
}

// TestMod: P1.2, moduli of all lengths.
func TestMod(t *testing.T) {
	s := source(22)
	for n := range 256 {
		m := fromBig(power(uint(n)))
		for range 20 {
			checkMod(t, s.edgy(), s.edgy(), m)
			shorter, _ := limbs.Sub(m, api.Word{1})
			if n > 0 {
				checkMod(t, s.edgy(), s.edgy(), shorter)
			}
			odd := limbs.Shr(s.edgy(), 255-n)
			odd[0] |= 1
			checkMod(t, s.edgy(), s.edgy(), odd)
		}
	}
	all := api.Word{most, most, most, most}
	checkMod(t, all, all, all)
	checkMod(t, all, all, api.Word{1})
	checkMod(t, api.Word{}, api.Word{}, all)
	if got, e := limbs.Mod(api.Word{1}, api.Word{}, api.Word{3}); got != (api.Word{1}) || e != api.OK {
		t.Error("Mod(1, 0, 3)", got, e)
	}
}

// TestModEdges: P1.2, words that lead a guess of a quotient's word astray.
func TestModEdges(t *testing.T) {
	s := source(23)
	for range 200000 {
		m := s.edgy()
		if m != (api.Word{}) {
			checkMod(t, s.edgy(), s.edgy(), m)
		}
	}
	// A rest whose highest word is the modulus's: the guess is the greatest word.
	checkMod(t, api.Word{0, 0, 0, 1 << 63}, api.Word{}, api.Word{1, 0, 0, 1 << 63})
	// A guess that is too great by 2.
	checkMod(t, api.Word{0, 0, 0, 1<<63 - 1}, api.Word{}, api.Word{0, most, most, 1 << 63})
}

// TestModByZero: P1.2 and P4 of DOC.md, nothing beside the error.
func TestModByZero(t *testing.T) {
	all := api.Word{most, most, most, most}
	for _, a := range []api.Word{{}, {7}, all} {
		if got, e := limbs.Mod(a, all, api.Word{}); got != (api.Word{}) || e != api.ErrZero {
			t.Error("Mod by 0", a, got, e)
		}
	}
}
