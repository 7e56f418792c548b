package poseidon

import (
	"slices"

	"causeway/api"
)

// permutation is what some Rounds come to.
type permutation struct {
	rounds    api.Rounds
	constants []api.Fe // round by round
	inverses  []api.Fe // of t, t + 1 .. 3 t - 2
}

// made answers the permutation of Rounds that may be.
func made(r api.Rounds) permutation {
	return permutation{r, constantsOf(r), inversesOf(r.Width)}
}

// row answers the matrix's i-th row. A place of the matrix hangs on i + j alone, so that each row is the one above it moved by one.
func (p permutation) row(i int) []api.Fe { return p.inverses[i : i+p.rounds.Width] }

// permuted answers the state behind all rounds, in memory of its own.
func (p permutation) permuted(state []api.Fe) []api.Fe {
	width := p.rounds.Width
	next := make([]api.Fe, width)
	old := slices.Clone(state)
	for round := range p.rounds.Full + p.rounds.Partial {
		for i, c := range p.constants[round*width : (round+1)*width] {
			old[i] = plus(old[i], c)
		}
		for i := range p.raised(round) {
			old[i] = fifth(old[i])
		}
		for i := range next {
			next[i] = dot(p.row(i), old)
		}
		old, next = next, old
	}
	return old
}

// raised answers how many elements, from the first one on, the round takes to the fifth power.
func (p permutation) raised(round int) int {
	half := p.rounds.Full / 2
	if round < half || round >= half+p.rounds.Partial {
		return p.rounds.Width
	}
	return 1
}

// digest answers the sponge's, of a list of elements.
func (p permutation) digest(l []api.Fe) api.Fe {
	rate := p.rounds.Width - 1
	state := make([]api.Fe, p.rounds.Width)
	state[0] = count(l)
	for {
		taken := min(rate, len(l))
		for i, a := range l[:taken] {
			state[1+i] = plus(state[1+i], a)
		}
		state = p.permuted(state)
		l = l[taken:]
		// Asked behind the permutation, for there is one of no elements too.
		if len(l) == 0 {
			return state[1]
		}
	}
}
