package smt_test

import (
	"slices"
	"testing"

	"causeway/api"
	"causeway/poseidon"
	"causeway/smt"
)

// two is the node above two others, the left one and the right one.
func two(r api.Rounds, left, right api.Fe) api.Fe {
	above, e := poseidon.Two(r, left, right)
	if e != api.OK {
		panic("Two")
	}
	return above
}

// over are the nodes above a row of them.
func over(r api.Rounds, row []api.Fe) []api.Fe {
	var above []api.Fe
	for pair := range slices.Chunk(row, 2) {
		above = append(above, two(r, pair[0], pair[1]))
	}
	return above
}

// rows are all of a tree, the leaves first, and the root last.
func rows(r api.Rounds, leaves []api.Fe) [][]api.Fe {
	all := [][]api.Fe{leaves}
	for len(leaves) > 1 {
		leaves = over(r, leaves)
		all = append(all, leaves)
	}
	return all
}

// zeros are the nodes over zeros, by height, up to the depth.
func zeros(depth int, r api.Rounds) []api.Fe {
	l := []api.Fe{{}}
	for i := range depth {
		l = append(l, two(r, l[i], l[i]))
	}
	return l
}

// sparse is a tree by its leaves; each node is made anew from those below it.
type sparse struct {
	depth  int
	rounds api.Rounds
	zeros  []api.Fe
	leaves map[uint64]api.Fe
}

func sparseOf(depth int, r api.Rounds) sparse {
	return sparse{depth, r, zeros(depth, r), map[uint64]api.Fe{}}
}

// node is the index-th of the height.
func (s sparse) node(height int, index uint64) api.Fe {
	used := false
	for i := range s.leaves {
		used = used || i>>height == index
	}
	switch {
	case !used:
		return s.zeros[height]
	case height == 0:
		return s.leaves[index]
	}
	return two(s.rounds, s.node(height-1, 2*index), s.node(height-1, 2*index+1))
}

// path is a leaf's: at each height the other one of the two below the next node on its way.
func (s sparse) path(i uint64) []api.Fe {
	var l []api.Fe
	for height := range s.depth {
		above := i >> (height + 1)
		beside := 2 * above
		if beside == i>>height {
			beside++
		}
		l = append(l, s.node(height, beside))
	}
	return l
}

// used are the leaves that are not 0.
func (s sparse) used() []uint64 {
	var l []uint64
	for i, leaf := range s.leaves {
		if leaf != (api.Fe{}) {
			l = append(l, i)
		}
	}
	slices.Sort(l)
	return l
}

// mustBe tells whether a tree is as it should be, by all that it tells of these leaves.
func mustBe(t *testing.T, what string, x *smt.Tree, want sparse, leaves ...uint64) {
	t.Helper()
	if root := x.Root(); root != want.node(want.depth, 0) {
		t.Error(what, "Root", want.depth, want.rounds, root)
	}
	if l := x.Used(); !slices.Equal(l, want.used()) {
		t.Error(what, "Used", want.depth, l, want.used())
	}
	for _, i := range leaves {
		if leaf, e := x.Get(i); leaf != want.leaves[i] || e != api.OK {
			t.Error(what, "Get", want.depth, i, leaf, e)
		}
		if path, e := x.Path(i); !slices.Equal(path, want.path(i)) || e != api.OK {
			t.Error(what, "Path", want.depth, want.rounds, i, len(path), e)
		}
	}
}

// all are all leaves of a tree of a small depth.
func all(depth int) []uint64 {
	var l []uint64
	for i := range uint64(1) << depth {
		l = append(l, i)
	}
	return l
}

// climbed are the pairs, left and right, that a leaf meets with its path on its way up, and the root.
func climbed(r api.Rounds, i uint64, leaf api.Fe, path []api.Fe) ([][2]api.Fe, api.Fe) {
	var pairs [][2]api.Fe
	for _, beside := range path {
		pair := [2]api.Fe{leaf, beside}
		if i%2 == 1 {
			pair = [2]api.Fe{beside, leaf}
		}
		pairs = append(pairs, pair)
		leaf = two(r, pair[0], pair[1])
		i /= 2
	}
	return pairs, leaf
}
