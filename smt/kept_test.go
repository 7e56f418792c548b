package smt

import (
	"testing"

	"causeway/api"
)

// mustKeep tells whether a tree keeps so many nodes, and none that is the one over zeros.
func mustKeep(t *testing.T, x *Tree, want int) {
	t.Helper()
	if len(x.nodes) != want {
		t.Error("so many are kept", len(x.nodes), want)
	}
	for at, node := range x.nodes {
		if node == x.zeros[at.height] {
			t.Error("one over zeros is kept", at)
		}
	}
}

// TestKept: the chapter's Ways, kept are the nodes that are not those over zeros, and no others: of leaves that are 0 again none.
func TestKept(t *testing.T) {
	r := api.Rounds{Width: 3, Full: 8, Partial: 57}
	const depth = 6
	x, _ := New(depth, r)
	mustKeep(t, x, 0)
	x.Set(0, api.Fe{})
	mustKeep(t, x, 0)
	x.Set(9, api.Fe{4})
	mustKeep(t, x, depth+1)
	x.Set(9, api.Fe{5})
	x.Set(9, api.Fe{3: 1 << 63})
	x.Set(1<<depth, api.Fe{5})
	mustKeep(t, x, depth+1)
	x.Set(8, api.Fe{5})
	mustKeep(t, x, depth+2)
	x.Set(63, api.Fe{6})
	mustKeep(t, x, depth+2+depth)
	y := x.Copy()
	for _, i := range []uint64{9, 63, 8} {
		x.Set(i, api.Fe{})
	}
	mustKeep(t, x, 0)
	mustKeep(t, y, depth+2+depth)
	for i := range uint64(1) << depth {
		y.Set(i, api.Fe{i + 1})
	}
	mustKeep(t, y, 2<<depth-1)
}
