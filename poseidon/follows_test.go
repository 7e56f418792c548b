package poseidon_test

import (
	"math/big"
	"reflect"
	"slices"
	"sync"
	"testing"

	"causeway/api"
	"causeway/poseidon"
)

// asTold is the permutation that Constants and Matrix tell.
func asTold(t *testing.T, r api.Rounds) reference {
	t.Helper()
	constants, e := poseidon.Constants(r)
	matrix, e2 := poseidon.Matrix(r)
	if e != api.OK || e2 != api.OK || len(matrix) != r.Width*r.Width {
		t.Fatal("Constants and Matrix", r, len(constants), e, len(matrix), e2)
	}
	return reference{r, numbers(constants), slices.Collect(slices.Chunk(numbers(matrix), r.Width))}
}

// TestOneToOne: P9.3, from what Permute answers the constants and the matrix lead back to what it was given, and on to it from whatever state.
func TestOneToOne(t *testing.T) {
	s := source(95)
	for _, r := range some() {
		p := asTold(t, r)
		for _, state := range [][]api.Fe{make([]api.Fe, r.Width), s.list(r.Width), s.list(r.Width)} {
			mustList(t, "back", r, elements(p.back(numbers(permute(t, r, state)))), api.OK, state)
			mustList(t, "on", r, permute(t, r, elements(p.back(numbers(state)))), api.OK, state)
		}
	}
}

// TestInverse: P9.3, the matrix times its inverse is one.
func TestInverse(t *testing.T) {
	for width := 2; width <= api.MaxWidth; width++ {
		r := api.Rounds{Width: width, Full: 2}
		matrix := asTold(t, r).matrix
		inverse := inverted(matrix)
		if inverse == nil {
			t.Fatal("no inverse", width)
		}
		for i := range width {
			one := make([]*big.Int, width)
			for j := range one {
				one[j] = new(big.Int)
			}
			one[i].SetInt64(1)
			mustList(t, "the matrix's inverse", r, elements(applied(matrix, applied(inverse, one))), api.OK, elements(one))
		}
	}
}

// TestSponge: P9.4, Hash of none and of one, Two and longer lists, by Permute alone.
func TestSponge(t *testing.T) {
	s := source(96)
	for _, r := range some() {
		state := make([]api.Fe, r.Width)
		if hash(t, r, nil) != permute(t, r, state)[1] || hash(t, r, []api.Fe{}) != hash(t, r, nil) {
			t.Error("Hash of none", r)
		}
		for _, a := range append(list(0, 1, -1), s.list(3)...) {
			state[0], state[1] = whole(1), a
			if hash(t, r, []api.Fe{a}) != permute(t, r, state)[1] {
				t.Error("Hash of one", r, a)
			}
		}
		l := s.list(2*r.Width - 2)
		state = append([]api.Fe{whole(int64(len(l)))}, l[:r.Width-1]...)
		state = permute(t, r, state)
		for i, a := range l[r.Width-1:] {
			state[1+i] = element(new(big.Int).Add(number(state[1+i]), number(a)))
		}
		if hash(t, r, l) != permute(t, r, state)[1] {
			t.Error("Hash of two rates", r, l)
		}
		if r.Width > 2 {
			state = make([]api.Fe, r.Width)
			state[1], state[2] = l[0], l[1]
			if two(t, r, l[0], l[1]) != permute(t, r, state)[1] {
				t.Error("Two", r, l)
			}
		}
	}
}

// TestUnlike: P9.2, lists that differ in an element, in their order or in their count, and Rounds that differ, have unlike digests.
func TestUnlike(t *testing.T) {
	seen := map[api.Fe]string{}
	add := func(what string, digest api.Fe) {
		t.Helper()
		if other, is := seen[digest]; is {
			t.Error("one digest", what, other)
		}
		seen[digest] = what
	}
	r := api.Rounds{Width: 3, Full: 4, Partial: 3}
	for n := range 9 {
		add("zeros", hash(t, r, make([]api.Fe, n)))
		for i := range n {
			l := make([]api.Fe, n)
			l[i] = whole(1)
			add("a one", hash(t, r, l))
		}
	}
	add("1 and 2", two(t, r, whole(1), whole(2)))
	add("2 and 1", two(t, r, whole(2), whole(1)))
	for _, other := range []api.Rounds{{Width: 4, Full: 4, Partial: 3}, {Width: 3, Full: 6, Partial: 3}, {Width: 3, Full: 4, Partial: 4}} {
		add("other Rounds", hash(t, other, list(1, 2)))
	}
}

// answers are all calls', of a list.
func answers(r api.Rounds, l []api.Fe) []any {
	constants, e := poseidon.Constants(r)
	matrix, e2 := poseidon.Matrix(r)
	state, e3 := poseidon.Permute(r, l)
	digest, e4 := poseidon.Hash(r, l)
	of, e5 := poseidon.Two(r, l[0], l[1])
	return []any{poseidon.Check(r), constants, e, matrix, e2, state, e3, digest, e4, of, e5}
}

// TestMemory: P9.5, P2 of DOC.md: what is handed in stays, with what lies behind it, of refused calls too; nothing of it is kept.
func TestMemory(t *testing.T) {
	lists := [][]api.Fe{list(1, 2, 3), list(1, 2), list(1, 2, 3, 4, 5, 6, 7), above(), {{}, {}, above()[0]}}
	for _, r := range []api.Rounds{{Width: 3, Full: 4, Partial: 2}, {Width: 2, Full: 2}, {Width: 7, Full: 2, Partial: 3}, {Width: 3, Full: 5}} {
		for _, l := range lists {
			long := append(slices.Clone(l), whole(77), above()[1], whole(78))
			old := slices.Clone(long)
			first := answers(r, long[:len(l)])
			if !slices.Equal(long, old) {
				t.Error("the argument is changed", r, l)
			}
			clear(long)
			if !reflect.DeepEqual(answers(r, l), first) {
				t.Error("the calls answer another time otherwise", r, l)
			}
		}
	}
}

// TestAnswersAlone: P9.5, P2 of DOC.md: an answer that is written over, with what lies behind it, changes no other one, no argument and no call's next.
func TestAnswersAlone(t *testing.T) {
	for _, r := range []api.Rounds{{Width: 3, Full: 4, Partial: 2}, {Width: 2, Full: 2}, {Width: 8, Full: 64, Partial: 128}} {
		state := source(97)
		in := state.list(r.Width)
		old := slices.Clone(in)
		ask := func() [][]api.Fe {
			constants, _ := poseidon.Constants(r)
			matrix, _ := poseidon.Matrix(r)
			return [][]api.Fe{constants, matrix, permute(t, r, in)}
		}
		want := ask()
		for i := range want {
			first, second := ask(), ask()
			for j := range first[i][:cap(first[i])] {
				first[i][:cap(first[i])][j] = above()[5]
			}
			for j := range want {
				if !slices.Equal(second[j], want[j]) || j != i && !slices.Equal(first[j], want[j]) {
					t.Error("answers share memory", r, i, j)
				}
			}
			if !reflect.DeepEqual(ask(), want) || !slices.Equal(in, old) {
				t.Error("an answer shares memory with what is kept or handed in", r, i)
			}
		}
	}
}

// TestNothingElse: P3 of DOC.md, calls side by side, of unlike Rounds, answer what they answer alone.
func TestNothingElse(t *testing.T) {
	rounds := []api.Rounds{{Width: 3, Full: 8, Partial: 57}, {Width: 2, Full: 2}, {Width: 5, Full: 4, Partial: 9}, {Width: 9}, {Width: 3, Full: 2, Partial: 1}}
	var want [][]any
	for _, r := range rounds {
		want = append(want, answers(r, list(1, 2, 3)))
	}
	var group sync.WaitGroup
	for i := range 8 {
		group.Go(func() {
			for n := range 3 * len(rounds) {
				at := (n + i) % len(rounds)
				if !reflect.DeepEqual(answers(rounds[at], list(1, 2, 3)), want[at]) {
					t.Error("side by side", rounds[at])
				}
			}
		})
	}
	group.Wait()
}
