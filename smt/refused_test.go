package smt_test

import (
	"slices"
	"testing"

	"causeway/api"
	"causeway/poseidon"
	"causeway/smt"
)

// TestNewRefused: P13.1, P13.2 and P4 of DOC.md, of New and Empty ErrDepth, ahead of ErrRounds; beside an error nothing.
func TestNewRefused(t *testing.T) {
	refused := func(depth int, r api.Rounds, want api.Errno) {
		t.Helper()
		if x, e := smt.New(depth, r); x != nil || e != want {
			t.Error("New", depth, r, x, e, "and not", want)
		}
		if root, e := smt.Empty(depth, r); root != (api.Fe{}) || e != want {
			t.Error("Empty", depth, r, root, e, "and not", want)
		}
	}
	for _, r := range wrong() {
		if r.Width != 2 && poseidon.Check(r) != api.ErrRounds {
			t.Error("poseidon's Check takes the test's wrong Rounds", r)
		}
		for _, depth := range []int{1, 2, 31, 32} {
			refused(depth, r, api.ErrRounds)
		}
	}
	for _, depth := range wrongDepths() {
		for _, r := range append(wrong(), some()...) {
			refused(depth, r, api.ErrDepth)
		}
	}
}

// TestNotMade: P13.1, of a tree that no New made ErrMade, ahead of all else; no root, no leaves, no copy.
func TestNotMade(t *testing.T) {
	refused, _ := smt.New(0, few())
	for _, x := range []*smt.Tree{nil, {}, new(smt.Tree), refused, (&smt.Tree{}).Copy()} {
		for _, i := range []uint64{0, 1, 2, 1 << 32, most} {
			if leaf, e := x.Get(i); leaf != (api.Fe{}) || e != api.ErrMade {
				t.Error("Get", i, leaf, e)
			}
			if path, e := x.Path(i); len(path) != 0 || e != api.ErrMade {
				t.Error("Path", i, path, e)
			}
			for _, leaf := range append(above(), api.Fe{}, whole(1)) {
				if e := x.Set(i, leaf); e != api.ErrMade {
					t.Error("Set", i, leaf, e)
				}
			}
		}
		if x.Root() != (api.Fe{}) || len(x.Used()) != 0 || x.Copy() != nil {
			t.Error("Root, Used and Copy", x.Root(), x.Used(), x.Copy())
		}
	}
}

// TestIndexRefused: P13.1 and P4 of DOC.md, ErrIndex of a leaf that there is not, of each depth, ahead of ErrElement; nothing is changed.
func TestIndexRefused(t *testing.T) {
	for depth := 1; depth <= api.MaxDepth; depth++ {
		x, want := made(t, depth, few()), sparseOf(depth, few())
		for _, i := range []uint64{0, 1<<depth - 1} {
			want.leaves[i] = whole(int64(i) + 3)
			set(t, x, i, want.leaves[i])
		}
		for _, i := range outside(depth) {
			if leaf, e := x.Get(i); leaf != (api.Fe{}) || e != api.ErrIndex {
				t.Error("Get", depth, i, leaf, e)
			}
			if path, e := x.Path(i); len(path) != 0 || e != api.ErrIndex {
				t.Error("Path", depth, i, path, e)
			}
			for _, leaf := range []api.Fe{{}, {9}, above()[0], above()[5]} {
				if e := x.Set(i, leaf); e != api.ErrIndex {
					t.Error("Set", depth, i, leaf, e)
				}
			}
		}
		mustBe(t, "refused indices", x, want, 0, 1<<depth-1)
	}
}

// TestElementRefused: P13.1, ErrElement of a leaf that is not below r, and the leaf stays; the highest element is taken.
func TestElementRefused(t *testing.T) {
	for _, depth := range []int{1, 3, 32} {
		x, want := made(t, depth, few()), sparseOf(depth, few())
		set(t, x, 1, whole(-1))
		want.leaves[1] = whole(-1)
		for _, leaf := range above() {
			for _, i := range []uint64{0, 1, 1<<depth - 1} {
				if e := x.Set(i, leaf); e != api.ErrElement {
					t.Error("Set", depth, i, leaf, e)
				}
			}
		}
		mustBe(t, "refused leaves", x, want, 0, 1, 1<<depth-1)
	}
}

// upRefused tells whether Up and Check answer the error, and nothing beside it, whatever root Check is given.
func upRefused(t *testing.T, r api.Rounds, i uint64, leaf api.Fe, path []api.Fe, want api.Errno) {
	t.Helper()
	if root, e := smt.Up(r, i, leaf, path); root != (api.Fe{}) || e != want {
		t.Error("Up", r, i, leaf, len(path), root, e, "and not", want)
	}
	for _, root := range []api.Fe{{}, {7}, above()[0], above()[5]} {
		mustCheck(t, r, root, i, leaf, path, want)
	}
}

// TestUpDepth: P13.2 and P4 of DOC.md, ErrDepth of a path that has not 1 to MaxDepth elements, ahead of all else.
func TestUpDepth(t *testing.T) {
	for _, r := range append(wrong(), some()...) {
		for _, path := range [][]api.Fe{nil, {}, make([]api.Fe, 33), make([]api.Fe, 34), make([]api.Fe, 64), slices.Repeat(above()[:1], 33), make([]api.Fe, 65537)} {
			for _, i := range []uint64{0, most} {
				upRefused(t, r, i, api.Fe{}, path, api.ErrDepth)
				upRefused(t, r, i, above()[1], path, api.ErrDepth)
			}
		}
	}
}

// TestUpRounds: P13.2 and P4 of DOC.md, ErrRounds, ahead of ErrIndex and ErrElement.
func TestUpRounds(t *testing.T) {
	for _, r := range wrong() {
		for _, path := range [][]api.Fe{make([]api.Fe, 1), make([]api.Fe, 32), above()} {
			for _, i := range []uint64{0, most} {
				upRefused(t, r, i, api.Fe{}, path, api.ErrRounds)
				upRefused(t, r, i, above()[1], path, api.ErrRounds)
			}
		}
	}
}

// TestUpIndex: P13.2 and P4 of DOC.md, ErrIndex of each depth, ahead of ErrElement.
func TestUpIndex(t *testing.T) {
	for depth := 1; depth <= api.MaxDepth; depth++ {
		for _, i := range outside(depth) {
			upRefused(t, few(), i, api.Fe{}, make([]api.Fe, depth), api.ErrIndex)
			upRefused(t, few(), i, above()[0], make([]api.Fe, depth), api.ErrIndex)
			upRefused(t, few(), i, api.Fe{}, slices.Repeat(above()[5:], depth), api.ErrIndex)
		}
		mustUp(t, few(), 1<<depth-1, api.Fe{}, make([]api.Fe, depth))
	}
}

// TestUpElement: P13.2, ErrElement of the leaf, and of each one of the path.
func TestUpElement(t *testing.T) {
	for _, depth := range []int{1, 2, 5, 32} {
		for _, bad := range above() {
			for _, i := range []uint64{0, 1, 1<<depth - 1} {
				path := slices.Repeat([]api.Fe{whole(-1)}, depth)
				upRefused(t, few(), i, bad, path, api.ErrElement)
				for height := range path {
					path[height] = bad
					upRefused(t, few(), i, whole(-1), path, api.ErrElement)
					path[height] = whole(-1)
				}
			}
		}
	}
}

// TestCheckRoot: P13.2 and P4 of DOC.md, ErrElement of a root that is not below r, ahead of ErrPath: of none of them Up's root modulo r makes it OK.
func TestCheckRoot(t *testing.T) {
	path := []api.Fe{{1}, {2}}
	root := mustUp(t, few(), 2, api.Fe{3}, path)
	more := number(root)
	for _, bad := range append(above(), plain(more.Add(more, order()))) {
		mustCheck(t, few(), bad, 2, api.Fe{3}, path, api.ErrElement)
	}
	mustCheck(t, few(), root, 2, api.Fe{3}, path, api.OK)
}
