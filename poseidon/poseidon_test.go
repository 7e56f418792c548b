package poseidon_test

import (
	"math/big"
	"slices"
	"testing"

	"causeway/api"
	"causeway/poseidon"
)

// TestExamples: the chapter's.
func TestExamples(t *testing.T) {
	if e := poseidon.Check(api.Rounds{Width: 3, Full: 8, Partial: 57}); e != api.OK {
		t.Error("Check", e)
	}
	if e := poseidon.Check(api.Rounds{Width: 3, Full: 7, Partial: 57}); e != api.ErrRounds {
		t.Error("Check of a Full of 7", e)
	}
	l, e := poseidon.Matrix(api.Rounds{Width: 2, Full: 2})
	half, third := new(big.Int).ModInverse(big.NewInt(2), order()), new(big.Int).ModInverse(big.NewInt(3), order())
	quarter := new(big.Int).Mul(half, half)
	mustList(t, "Matrix", api.Rounds{Width: 2}, l, e, elements([]*big.Int{half, third, third, quarter}))
}

// TestCheck: P9.1, all Rounds about those that may be.
func TestCheck(t *testing.T) {
	for width := -2; width < 12; width++ {
		for full := -4; full < 70; full++ {
			for partial := -3; partial < 135; partial++ {
				r := api.Rounds{Width: width, Full: full, Partial: partial}
				may := 2 <= width && width <= 8 && 2 <= full && full <= 64 && full&1 == 0 && 0 <= partial && partial <= 128
				if e := poseidon.Check(r); may != (e == api.OK) || !may && e != api.ErrRounds {
					t.Fatal("Check", r, e)
				}
			}
		}
	}
	for _, r := range wrong() {
		if e := poseidon.Check(r); e != api.ErrRounds {
			t.Error("Check", r, e)
		}
	}
}

// hex are the elements of digits to the base 16.
func hex(l ...string) []api.Fe {
	var out []api.Fe
	for _, text := range l {
		n, _ := new(big.Int).SetString(text, 16)
		out = append(out, plain(n))
	}
	return out
}

// TestPublished: P9.1, the stream's first constants are those that other programs have for these Rounds.
func TestPublished(t *testing.T) {
	three := api.Rounds{Width: 3, Full: 8, Partial: 57}
	l, e := poseidon.Constants(three)
	mustList(t, "Constants", three, l[:min(3, len(l))], e, hex(
		"0ee9a592ba9a9518d05986d656f40c2114c4993c11bb29938d21d47304cd8e6e",
		"00f1445235f2148c5986587169fc1bcd887b08d4d00868df5696fff40956e864",
		"08dff3487e8ac99e1f29a058d0fa80b930c728730b7ab36ce879f3890ecf73f5",
	))
	two := api.Rounds{Width: 2, Full: 8, Partial: 56}
	l, e = poseidon.Constants(two)
	mustList(t, "Constants", two, l[:min(2, len(l))], e, hex(
		"09c46e9ec68e9bd4fe1faaba294cba38a71aa177534cdd1b6c7dc0dbd0abd7a7",
		"0c0356530896eec42a97ed937f3135cfc5142b3ae405b8343c1d83ffa604cb81",
	))
}

// TestConstants: P9.1, as many as there are, bit by bit; some are left out on the way.
func TestConstants(t *testing.T) {
	for _, r := range some() {
		l, e := poseidon.Constants(r)
		mustList(t, "Constants", r, l, e, elements(refConstants(r)))
		if len(l) != r.Width*(r.Full+r.Partial) {
			t.Error("Constants", r, len(l))
		}
	}
	g := grainOf(api.Rounds{Width: 3, Full: 8, Partial: 57})
	out := 0
	for range 195 {
		_, n := g.constant()
		out += n
	}
	if out == 0 {
		t.Error("no constant was left out")
	}
}

// TestMatrix: P9.1, row by row, and of the Width alone.
func TestMatrix(t *testing.T) {
	for _, r := range some() {
		l, e := poseidon.Matrix(r)
		mustList(t, "Matrix", r, l, e, elements(slices.Concat(refMatrix(r.Width)...)))
	}
}

// TestPermute: P9.2, the state behind all rounds.
func TestPermute(t *testing.T) {
	s := source(91)
	for _, r := range some() {
		p := referenceOf(r)
		for _, state := range [][]api.Fe{make([]api.Fe, r.Width), slices.Repeat(list(-1), r.Width), s.list(r.Width), s.list(r.Width)} {
			l, e := poseidon.Permute(r, state)
			mustList(t, "Permute", r, l, e, elements(p.permuted(numbers(state))))
		}
		for i := range r.Width {
			state := make([]api.Fe, r.Width)
			state[i] = whole(1)
			l, e := poseidon.Permute(r, state)
			mustList(t, "Permute of a one", r, l, e, elements(p.permuted(numbers(state))))
		}
	}
}

// TestHash: P9.2, the sponge's digest of none, of less than a rate, of whole ones and of more.
func TestHash(t *testing.T) {
	s := source(92)
	for _, r := range some() {
		p := referenceOf(r)
		counts := []int{0, 1, 2, r.Width - 2, r.Width - 1, r.Width, 2*r.Width - 2, 2*r.Width - 1, 3*r.Width - 4}
		for _, n := range counts {
			for _, l := range [][]api.Fe{make([]api.Fe, n), s.list(n)} {
				if got, e := poseidon.Hash(r, l); got != element(p.hash(numbers(l))) || e != api.OK {
					t.Error("Hash", r, l, got, e)
				}
			}
		}
	}
}

// TestMostAbsorbed: P9.2, 4096 elements are taken, of each Width; one more is not.
func TestMostAbsorbed(t *testing.T) {
	s := source(93)
	for width := 2; width <= api.MaxWidth; width++ {
		r := api.Rounds{Width: width, Full: 2, Partial: 1}
		l := s.list(api.MaxAbsorb)
		if got, e := poseidon.Hash(r, l); got != element(referenceOf(r).hash(numbers(l))) || e != api.OK {
			t.Error("Hash", r, got, e)
		}
		if got, e := poseidon.Hash(r, append(l, whole(1))); got != (api.Fe{}) || e != api.ErrCount {
			t.Error("Hash of more", r, got, e)
		}
	}
}

// TestTwo: P9.2, the second element behind 0, a, b and zeros; of a Width of 2 ErrRounds.
func TestTwo(t *testing.T) {
	s := source(94)
	for _, r := range some() {
		p := referenceOf(r)
		for _, l := range [][]api.Fe{list(0, 0), list(1, 0), list(0, 1), list(-1, -1), s.list(2), s.list(2)} {
			want, wrong := api.Fe{}, api.ErrRounds
			if r.Width > 2 {
				state := make([]api.Fe, r.Width)
				copy(state[1:], l)
				want, wrong = element(p.permuted(numbers(state))[1]), api.OK
			}
			if got, e := poseidon.Two(r, l[0], l[1]); got != want || e != wrong {
				t.Error("Two", r, l, got, e)
			}
		}
	}
}
