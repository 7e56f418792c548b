package poseidon_test

import (
	"slices"
	"testing"

	"causeway/api"
	"causeway/poseidon"
)

// asked is a call of some Rounds and so many elements: is there nothing beside its error, and the error.
type asked struct {
	name string
	of   func(r api.Rounds, l []api.Fe) (bool, api.Errno)
}

func calls() []asked {
	none := func(l []api.Fe, e api.Errno) (bool, api.Errno) { return l == nil, e }
	zero := func(a api.Fe, e api.Errno) (bool, api.Errno) { return a == api.Fe{}, e }
	return []asked{
		{"Check", func(r api.Rounds, l []api.Fe) (bool, api.Errno) { return true, poseidon.Check(r) }},
		{"Constants", func(r api.Rounds, l []api.Fe) (bool, api.Errno) { return none(poseidon.Constants(r)) }},
		{"Matrix", func(r api.Rounds, l []api.Fe) (bool, api.Errno) { return none(poseidon.Matrix(r)) }},
		{"Permute", func(r api.Rounds, l []api.Fe) (bool, api.Errno) { return none(poseidon.Permute(r, l)) }},
		{"Hash", func(r api.Rounds, l []api.Fe) (bool, api.Errno) { return zero(poseidon.Hash(r, l)) }},
		{"Two", func(r api.Rounds, l []api.Fe) (bool, api.Errno) {
			l = append(slices.Clone(l), api.Fe{}, api.Fe{})
			return zero(poseidon.Two(r, l[0], l[1]))
		}},
	}
}

// call is the call of that name.
func call(name string) asked {
	l := calls()
	return l[slices.IndexFunc(l, func(c asked) bool { return c.name == name })]
}

// mustRefuse tells whether the call refuses what is handed in so, and answers nothing beside it.
func (c asked) mustRefuse(t *testing.T, r api.Rounds, l []api.Fe, wrong api.Errno) {
	t.Helper()
	if nothing, e := c.of(r, l); !nothing || e != wrong {
		t.Error(c.name, r, len(l), nothing, e, wrong)
	}
}

// TestWrongRounds: P9.1, P9.2 and P4 of DOC.md, ErrRounds of all calls, ahead of counts and elements.
func TestWrongRounds(t *testing.T) {
	for _, r := range wrong() {
		for _, c := range calls() {
			c.mustRefuse(t, r, list(0, 1, 2), api.ErrRounds)
			c.mustRefuse(t, r, nil, api.ErrRounds)
			c.mustRefuse(t, r, above(), api.ErrRounds)
			c.mustRefuse(t, r, make([]api.Fe, api.MaxAbsorb+1), api.ErrRounds)
			c.mustRefuse(t, r, slices.Repeat(above()[:1], api.MaxAbsorb+1), api.ErrRounds)
		}
	}
}

// TestCounts: P9.2 and P4 of DOC.md, ErrCount of a state that has not just Width elements, and of more than MaxAbsorb to hash, ahead of their elements.
func TestCounts(t *testing.T) {
	for _, r := range some() {
		for _, n := range []int{0, 1, r.Width - 1, r.Width + 1, 2 * r.Width, 4096, 65537} {
			if n != r.Width {
				call("Permute").mustRefuse(t, r, make([]api.Fe, n), api.ErrCount)
				call("Permute").mustRefuse(t, r, slices.Repeat(above()[:1], n), api.ErrCount)
			}
		}
		call("Permute").mustRefuse(t, r, nil, api.ErrCount)
		for _, n := range []int{api.MaxAbsorb + 1, api.MaxAbsorb + 2, 2 * api.MaxAbsorb, 65537} {
			call("Hash").mustRefuse(t, r, make([]api.Fe, n), api.ErrCount)
			call("Hash").mustRefuse(t, r, slices.Repeat(above()[:1], n), api.ErrCount)
		}
	}
}

// TestElements: P9.2, ErrElement of each place; the highest elements that there are stay.
func TestElements(t *testing.T) {
	for width := 2; width <= api.MaxWidth; width++ {
		r := api.Rounds{Width: width, Full: 2, Partial: 1}
		for _, bad := range above() {
			for i := range width {
				state := make([]api.Fe, width)
				state[i] = bad
				call("Permute").mustRefuse(t, r, state, api.ErrElement)
			}
			for _, n := range []int{1, width - 1, width, 2 * width, 40, api.MaxAbsorb} {
				for _, i := range []int{0, n / 2, n - 1} {
					l := make([]api.Fe, n)
					l[i] = bad
					call("Hash").mustRefuse(t, r, l, api.ErrElement)
				}
			}
		}
		highest := slices.Repeat(list(-1), width)
		permute(t, r, highest)
		hash(t, r, highest)
	}
}

// TestTwoRefused: P9.2 and P4 of DOC.md, ErrElement of either one, ahead of the ErrRounds of a Width of 2, which the chapter names behind it.
func TestTwoRefused(t *testing.T) {
	for _, r := range some() {
		for _, bad := range above() {
			for _, l := range [][]api.Fe{{bad, {}}, {{}, bad}, {bad, bad}, {bad, whole(-1)}, {whole(-1), bad}} {
				call("Two").mustRefuse(t, r, l, api.ErrElement)
			}
		}
		if r.Width == 2 {
			call("Two").mustRefuse(t, r, list(0, 0), api.ErrRounds)
			call("Two").mustRefuse(t, r, list(-1, -1), api.ErrRounds)
		} else {
			two(t, r, whole(-1), whole(-1))
		}
	}
}
