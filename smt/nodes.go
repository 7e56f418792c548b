package smt

import (
	"causeway/api"
	"causeway/field"
	"causeway/poseidon"
)

const (
	leastDepth = 1
	leastWidth = 3 // poseidon.Two takes none of less
)

// spot is where a node stands: so high above the leaves, and so many nodes from the left.
type spot struct {
	height int
	index  uint64
}

// refusesTree answers why there is no tree of that depth and of such Rounds: ErrDepth, poseidon.Check's error, ErrRounds.
func refusesTree(depth int, r api.Rounds) api.Errno {
	if depth < leastDepth || depth > api.MaxDepth {
		return api.ErrDepth
	}
	if e := poseidon.Check(r); e != api.OK {
		return e
	}
	if r.Width < leastWidth {
		return api.ErrRounds
	}
	return api.OK
}

// hasLeaf: has a tree of the depth the i-th leaf?
func hasLeaf(depth int, i uint64) bool { return i>>depth == 0 }

// areElements: are all of them below r?
func areElements(l ...api.Fe) bool {
	for _, a := range l {
		if field.Check(api.FieldR, a) != api.OK {
			return false
		}
	}
	return true
}

// over answers the node above two: the one of the index, and the one beside it. The Rounds and both are checked, so that nothing is refused.
func over(r api.Rounds, index uint64, node api.Fe, beside api.Fe) api.Fe {
	left, right := node, beside
	if index%2 == 1 {
		left, right = beside, node
	}
	above, _ := poseidon.Two(r, left, right)
	return above
}

// isMade: did a New make it?
func (t *Tree) isMade() bool { return t != nil && t.depth != 0 }

// refuses answers why there is no i-th leaf: ErrMade, ErrIndex.
func (t *Tree) refuses(i uint64) api.Errno {
	if !t.isMade() {
		return api.ErrMade
	}
	if !hasLeaf(t.depth, i) {
		return api.ErrIndex
	}
	return api.OK
}

// top answers where the root stands.
func (t *Tree) top() spot { return spot{height: t.depth} }

// node answers the node that stands there.
func (t *Tree) node(at spot) api.Fe {
	if node, ok := t.nodes[at]; ok {
		return node
	}
	return t.zeros[at.height]
}

// keep lets the node stand there. What is the same over zeros stands in no map, whatever is below it, so that a tree is no greater than its leaves ask for.
func (t *Tree) keep(at spot, node api.Fe) {
	if node == t.zeros[at.height] {
		delete(t.nodes, at)
		return
	}
	t.nodes[at] = node
}

// path answers the nodes beside those on the way up from a leaf that there is.
func (t *Tree) path(i uint64) []api.Fe {
	path := make([]api.Fe, t.depth)
	for height := range path {
		path[height] = t.node(spot{height, i>>height ^ 1})
	}
	return path
}
