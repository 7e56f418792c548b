package smt_test

import (
	"slices"
	"testing"

	"causeway/api"
	"causeway/smt"
)

// TestExample: the chapter's example.
func TestExample(t *testing.T) {
	for _, r := range some() {
		x := made(t, 1, r)
		if x.Root() != two(r, whole(0), whole(0)) {
			t.Error("Root", r, x.Root())
		}
		set(t, x, 1, whole(5))
		if x.Root() != two(r, whole(0), whole(5)) {
			t.Error("Root behind Set", r, x.Root())
		}
		one, e := x.Path(1)
		none, e2 := x.Path(0)
		if !slices.Equal(one, []api.Fe{{}}) || !slices.Equal(none, []api.Fe{{5}}) || e != api.OK || e2 != api.OK {
			t.Error("Path", r, one, none, e, e2)
		}
	}
}

// TestReference: the two ways in which these tests make a tree are one.
func TestReference(t *testing.T) {
	s := source(131)
	for depth := 1; depth <= 5; depth++ {
		leaves := s.list(1 << depth)
		want := sparseOf(depth, few())
		for i, leaf := range leaves {
			want.leaves[uint64(i)] = leaf
		}
		for height, row := range rows(few(), leaves) {
			for i, node := range row {
				if want.node(height, uint64(i)) != node {
					t.Fatal("the tests' trees", depth, height, i)
				}
			}
		}
		for i := range leaves {
			pairs, root := climbed(few(), uint64(i), leaves[i], want.path(uint64(i)))
			if len(pairs) != depth || root != want.node(depth, 0) {
				t.Fatal("the tests' path", depth, i)
			}
		}
	}
}

// TestNew: P13.1, a tree of zeros, of each depth and by each Rounds.
func TestNew(t *testing.T) {
	for depth := 1; depth <= api.MaxDepth; depth++ {
		mustBe(t, "New", made(t, depth, few()), sparseOf(depth, few()), ends(depth, source(depth))...)
	}
	for _, r := range append(some(), api.Rounds{Width: 8, Full: 64, Partial: 128}) {
		mustBe(t, "New", made(t, 3, r), sparseOf(3, r), all(3)...)
	}
	mustBe(t, "New", made(t, 32, usual()), sparseOf(32, usual()), 0, 1<<32-1)
}

// TestEmpty: P13.2, the root of zeros, of each depth and by each Rounds.
func TestEmpty(t *testing.T) {
	for _, r := range some() {
		want := zeros(5, r)
		for depth := 1; depth <= 5; depth++ {
			if root, e := smt.Empty(depth, r); root != want[depth] || e != api.OK {
				t.Error("Empty", depth, r, root, e)
			}
		}
	}
	want := zeros(api.MaxDepth, few())
	for depth := 1; depth <= api.MaxDepth; depth++ {
		if root, e := smt.Empty(depth, few()); root != want[depth] || e != api.OK {
			t.Error("Empty", depth, root, e)
		}
	}
}

// TestSet: P13.1, all that a small tree tells, behind each Set of a drawn history: leaves are made other ones, 0 again, and what they are.
func TestSet(t *testing.T) {
	s := source(132)
	for depth := 1; depth <= 5; depth++ {
		for _, r := range []api.Rounds{few(), {Width: 4, Full: 2, Partial: 1}, {Width: 8, Full: 4}} {
			x, want := made(t, depth, r), sparseOf(depth, r)
			for range 12 {
				i, leaf := s.below(1<<depth), s.element()
				for range 1 + s.word()%2 {
					set(t, x, i, leaf)
				}
				want.leaves[i] = leaf
				mustBe(t, "Set", x, want, all(depth)...)
			}
		}
	}
}

// TestSetAll: P13.1, of all leaves, and of all to 0 again.
func TestSetAll(t *testing.T) {
	s := source(133)
	x, want := made(t, 4, few()), sparseOf(4, few())
	for i := range uint64(16) {
		want.leaves[i] = whole(int64(s.below(9)) + 1)
		set(t, x, i, want.leaves[i])
	}
	mustBe(t, "all Set", x, want, all(4)...)
	for i := range uint64(16) {
		delete(want.leaves, i)
		set(t, x, i, api.Fe{})
		mustBe(t, "some 0 again", x, want, all(4)...)
	}
	if x.Root() != made(t, 4, few()).Root() {
		t.Error("all 0 again", x.Root())
	}
}

// TestDeep: P13.1, of the leaves at a tree's ends, at each depth.
func TestDeep(t *testing.T) {
	s := source(134)
	for _, depth := range []int{6, 7, 8, 15, 16, 17, 30, 31, 32} {
		x, want := made(t, depth, few()), sparseOf(depth, few())
		l := ends(depth, s)
		for _, i := range l {
			want.leaves[i] = element(number(api.Fe{s.word(), s.word(), s.word(), s.word()}))
			set(t, x, i, want.leaves[i])
		}
		mustBe(t, "a deep tree", x, want, append(l, s.below(1<<depth), s.below(1<<depth))...)
		for _, i := range l[1:] {
			delete(want.leaves, i)
			set(t, x, i, api.Fe{})
		}
		mustBe(t, "a deep tree with one leaf", x, want, l...)
	}
}

// TestReal: P13.1, P13.2, by the Rounds of the other layers, at the greatest depth.
func TestReal(t *testing.T) {
	x, want := made(t, 32, usual()), sparseOf(32, usual())
	for i, leaf := range map[uint64]api.Fe{0: whole(-1), 1 << 31: {7}, 1<<32 - 1: {9, 9, 9}} {
		want.leaves[i] = leaf
		set(t, x, i, leaf)
	}
	mustBe(t, "the other layers' Rounds", x, want, 0, 1, 1<<31, 1<<32-1)
	path, _ := x.Path(1 << 31)
	mustCheck(t, usual(), x.Root(), 1<<31, api.Fe{7}, path, api.OK)
	mustCheck(t, usual(), x.Root(), 1<<31, api.Fe{8}, path, api.ErrPath)
}

// TestUp: P13.2, the root of a leaf and a path, whatever they are.
func TestUp(t *testing.T) {
	s := source(135)
	for depth := 1; depth <= api.MaxDepth; depth++ {
		for _, i := range ends(depth, s) {
			leaf, path := s.element(), s.list(depth)
			if _, want := climbed(few(), i, leaf, path); mustUp(t, few(), i, leaf, path) != want {
				t.Error("Up", depth, i)
			}
		}
	}
	for _, r := range some() {
		for i := range uint64(8) {
			leaf, path := s.element(), s.list(3)
			if _, want := climbed(r, i, leaf, path); mustUp(t, r, i, leaf, path) != want {
				t.Error("Up", r, i)
			}
		}
	}
	highest := slices.Repeat([]api.Fe{whole(-1)}, 3)
	if _, want := climbed(few(), 5, highest[0], highest); mustUp(t, few(), 5, highest[0], highest) != want {
		t.Error("Up of the highest elements")
	}
}

// TestCheck: P13.2, OK of the root that Up answers, ErrPath of each other root, leaf, index and path.
func TestCheck(t *testing.T) {
	s := source(136)
	for _, depth := range []int{1, 2, 3, 4, 8, 31, 32} {
		i, leaf, path := s.below(1<<depth), whole(6), make([]api.Fe, depth)
		for height := range path {
			path[height] = whole(int64(height + 7))
		}
		_, root := climbed(few(), i, leaf, path)
		check := func(root api.Fe, i uint64, leaf api.Fe, want api.Errno) {
			t.Helper()
			mustCheck(t, few(), root, i, leaf, path, want)
		}
		check(root, i, leaf, api.OK)
		for _, other := range []api.Fe{{}, leaf, path[depth-1], whole(-1), two(few(), path[0], leaf)} {
			if other != root {
				check(other, i, leaf, api.ErrPath)
			}
		}
		for word := range root {
			other := root
			other[word] ^= 1
			check(other, i, leaf, api.ErrPath)
		}
		for _, other := range []api.Fe{{}, {5}, {7}, root, whole(-1)} {
			check(root, i, other, api.ErrPath)
		}
		for height := range path {
			check(root, i^1<<height, leaf, api.ErrPath)
			path[height][0]++
			check(root, i, leaf, api.ErrPath)
			path[height][0]--
		}
		if depth < api.MaxDepth {
			mustCheck(t, few(), root, i, leaf, append(path[:depth:depth], api.Fe{}), api.ErrPath)
		}
		if depth > 1 {
			mustCheck(t, few(), root, i%(1<<(depth-1)), leaf, path[:depth-1], api.ErrPath)
		}
		mustCheck(t, api.Rounds{Width: 4, Full: 2}, root, i, leaf, path, api.ErrPath)
		mustCheck(t, api.Rounds{Width: 3, Full: 4}, root, i, leaf, path, api.ErrPath)
		check(root, i, leaf, api.OK)
	}
}
