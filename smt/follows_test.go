package smt_test

import (
	"slices"
	"sync"
	"testing"

	"causeway/api"
	"causeway/smt"
)

// put is a leaf that is set.
type put struct {
	i    uint64
	leaf api.Fe
}

// told is a tree by its Sets.
func told(t *testing.T, depth int, l ...put) *smt.Tree {
	t.Helper()
	x := made(t, depth, few())
	for _, p := range l {
		set(t, x, p.i, p.leaf)
	}
	return x
}

// wantOf is what a tree is behind its Sets.
func wantOf(depth int, l ...put) sparse {
	want := sparseOf(depth, few())
	for _, p := range l {
		want.leaves[p.i] = p.leaf
	}
	return want
}

// puts draws so many leaves of unlike places, none of them 0.
func (s *source) puts(depth, n int) []put {
	var l []put
	for len(l) < n {
		p := put{s.below(1 << depth), s.element()}
		isThere := slices.ContainsFunc(l, func(q put) bool { return q.i == p.i })
		if !isThere && p.leaf != (api.Fe{}) {
			l = append(l, p)
		}
	}
	return l
}

// mix changes the order.
func (s *source) mix(l []put) []put {
	l = slices.Clone(l)
	for i := range l {
		j := s.below(uint64(i) + 1)
		l[i], l[j] = l[j], l[i]
	}
	return l
}

// mustTake tells whether Check takes the leaf with its path, and no other one.
func mustTake(t *testing.T, x *smt.Tree, i uint64) {
	t.Helper()
	leaf, e := x.Get(i)
	path, e2 := x.Path(i)
	if e != api.OK || e2 != api.OK {
		t.Error("Get and Path", i, e, e2)
	}
	mustCheck(t, few(), x.Root(), i, leaf, path, api.OK)
	if root := mustUp(t, few(), i, leaf, path); root != x.Root() {
		t.Error("Up", i, root)
	}
	if leaf != whole(77) {
		mustCheck(t, few(), x.Root(), i, whole(77), path, api.ErrPath)
	}
}

// TestTakes: P13.3, Check takes each leaf with its path, of the empty tree, too.
func TestTakes(t *testing.T) {
	s := source(139)
	for depth := 1; depth <= 6; depth++ {
		for _, n := range []int{0, 1, 2, 1 << depth} {
			x := told(t, depth, s.puts(depth, n)...)
			for _, i := range all(depth) {
				mustTake(t, x, i)
			}
		}
	}
	for _, depth := range []int{16, 31, 32} {
		l := s.puts(depth, 10)
		x := told(t, depth, l...)
		for _, p := range l {
			mustTake(t, x, p.i)
			mustTake(t, x, p.i^1)
			mustTake(t, x, s.below(1<<depth))
		}
	}
}

// TestJustOne: P13.3, Set changes just the one leaf, and of the paths those that its way is beside.
func TestJustOne(t *testing.T) {
	const depth = 4
	s := source(140)
	x := told(t, depth, s.puts(depth, 9)...)
	for _, i := range all(depth) {
		y := x.Copy()
		set(t, y, i, element(number(api.Fe{s.word(), s.word(), s.word()})))
		if x.Root() == y.Root() {
			t.Error("the root stays", i)
		}
		for _, j := range all(depth) {
			was, _ := x.Get(j)
			is, _ := y.Get(j)
			if (was == is) != (i != j) {
				t.Error("the leaf", i, j, was, is)
			}
			before, _ := x.Path(j)
			behind, _ := y.Path(j)
			for height := range depth {
				if beside := j>>height^1 == i>>height; (before[height] == behind[height]) == beside {
					t.Error("the path", i, j, height)
				}
			}
		}
	}
}

// TestOrder: P13.3, the root and all else hang on the leaves alone: not on the order of calls, nor on what the leaves were, nor on calls that only ask or are refused.
func TestOrder(t *testing.T) {
	s := source(141)
	for _, depth := range []int{3, 5, 32} {
		l := s.puts(depth, 6)
		want := wantOf(depth, l...)
		var leaves []uint64
		for _, p := range l {
			leaves = append(leaves, p.i)
		}
		for range 5 {
			x := made(t, depth, few())
			detours := append(slices.Clone(l[:3]), s.puts(depth, 4)...)
			for _, p := range detours {
				set(t, x, p.i, whole(8))
				x.Path(p.i)
				x.Set(p.i, above()[0])
			}
			for _, p := range s.mix(detours) {
				set(t, x, p.i, api.Fe{})
				x.Root()
				x.Set(most, p.leaf)
			}
			for _, p := range s.mix(append(slices.Clone(l), l...)) {
				set(t, x, p.i, p.leaf)
			}
			mustBe(t, "by another order", x, want, leaves...)
		}
	}
}

// TestUnlike: P13.3, by Rounds enough unlike leaves make unlike roots: by value, by place, and by depth.
func TestUnlike(t *testing.T) {
	seen := map[api.Fe]int{}
	for depth := 1; depth <= 4; depth++ {
		x := made(t, depth, usual())
		seen[x.Root()]++
		for _, i := range all(depth) {
			for _, leaf := range []api.Fe{{1}, {2}} {
				set(t, x, i, leaf)
				seen[x.Root()]++
			}
			set(t, x, i, api.Fe{})
		}
	}
	if want := 4 + 2*(2+4+8+16); len(seen) != want {
		t.Error("like roots", len(seen), want)
	}
}

// TestCopy: P13.1, P13.5, a copy is the same tree, and shares nothing: what is set in one is not set in the other, whichever goes first.
func TestCopy(t *testing.T) {
	const depth = 4
	s := source(142)
	for _, n := range []int{0, 1, 7} {
		l := s.puts(depth, n)
		x := told(t, depth, l...)
		y := x.Copy()
		z := y.Copy()
		ofX := append(slices.Clone(l), s.puts(depth, 5)...)
		ofY := append(slices.Clone(l), s.puts(depth, 3)...)
		mustBe(t, "a copy", y, wantOf(depth, l...), all(depth)...)
		for _, p := range ofX[n:] {
			set(t, x, p.i, p.leaf)
		}
		mustBe(t, "the copy stays", y, wantOf(depth, l...), all(depth)...)
		for _, p := range ofY[n:] {
			set(t, y, p.i, p.leaf)
		}
		for _, i := range all(depth) {
			set(t, z, i, api.Fe{})
		}
		mustBe(t, "the tree", x, wantOf(depth, ofX...), all(depth)...)
		mustBe(t, "the copy goes on", y, wantOf(depth, ofY...), all(depth)...)
		mustBe(t, "the copy's copy", z, wantOf(depth), all(depth)...)
		*y = smt.Tree{}
		mustBe(t, "the copy is gone", x, wantOf(depth, ofX...), all(depth)...)
	}
}

// TestAnswersAlone: P13.5, an answer that is written over, with what lies behind it, changes no other one, nor the tree.
func TestAnswersAlone(t *testing.T) {
	const depth = 3
	s := source(143)
	l := s.puts(depth, 5)
	x := told(t, depth, l...)
	want := wantOf(depth, l...)
	y := x.Copy()
	for _, i := range all(depth) {
		first, _ := x.Path(i)
		second, _ := x.Path(i)
		used, again := x.Used(), x.Used()
		for j := range first[:cap(first)] {
			first[:cap(first)][j] = above()[5]
		}
		for j := range used[:cap(used)] {
			used[:cap(used)][j] = most
		}
		if !slices.Equal(second, want.path(i)) || !slices.Equal(again, want.used()) {
			t.Error("answers share memory", i)
		}
		mustBe(t, "behind written answers", x, want, all(depth)...)
		mustBe(t, "the copy", y, want, all(depth)...)
	}
}

// TestArgumentsStay: P13.5, a path that is handed in stays, with what lies behind it, and of refused calls, too; nothing of it is kept.
func TestArgumentsStay(t *testing.T) {
	s := source(144)
	for _, n := range []int{0, 1, 3, 32, 33} {
		long := append(s.list(n), above()...)
		old := slices.Clone(long)
		root, e := smt.Up(few(), 1, whole(2), long[:n])
		wrong := smt.Check(few(), root, 1, whole(2), long[:n])
		smt.Up(few(), 1, above()[0], long[:n])
		smt.Up(few(), 1, whole(2), long)
		smt.Check(few(), above()[0], 1, whole(2), long[:n])
		if !slices.Equal(long, old) {
			t.Error("the path is changed", n)
		}
		clear(long)
		if again, e2 := smt.Up(few(), 1, whole(2), old[:n]); again != root || e2 != e || wrong != e {
			t.Error("another time otherwise", n, e, e2, wrong)
		}
	}
}

// TestNothingElse: P3 of DOC.md, calls side by side answer what they answer alone: those that only ask, of one tree, and all of trees and their copies.
func TestNothingElse(t *testing.T) {
	const depth = 4
	s := source(145)
	l := s.puts(depth, 8)
	x := told(t, depth, l...)
	want := wantOf(depth, l...)
	var group sync.WaitGroup
	for i := range 8 {
		y := x.Copy()
		more := source(146 + i)
		ofY := append(slices.Clone(l), more.puts(depth, 4)...)
		group.Go(func() {
			for range 3 {
				mustBe(t, "side by side", x, want, all(depth)...)
				mustBe(t, "a copy side by side", x.Copy(), want, uint64(i))
			}
			for _, p := range ofY[len(l):] {
				set(t, y, p.i, p.leaf)
			}
			mustBe(t, "Sets side by side", y, wantOf(depth, ofY...), all(depth)...)
		})
	}
	group.Wait()
}

// TestWhateverIsGiven: P1 and P4 of DOC.md, there is an answer to whatever is given, and beside an error nothing.
func TestWhateverIsGiven(t *testing.T) {
	s := source(147)
	drawn := func() api.Fe { return api.Fe{s.word(), s.word(), s.word(), s.word()} }
	small := func(n uint64) int { return int(s.below(n)) - 2 }
	for range 300 {
		depth, r := small(40), api.Rounds{Width: small(14), Full: small(8), Partial: small(5)}
		x, e := smt.New(depth, r)
		if (x == nil) != (e != api.OK) {
			t.Error("New", depth, r, e)
		}
		i := s.word() >> (s.word() % 64)
		if e := x.Set(i, drawn()); e == api.ErrMade != (x == nil) {
			t.Error("Set", depth, r, i, e)
		}
		if leaf, e := x.Get(i); e != api.OK && leaf != (api.Fe{}) {
			t.Error("Get", depth, i, leaf, e)
		}
		if path, e := x.Path(i); len(path) != 0 != (e == api.OK) {
			t.Error("Path", depth, i, len(path), e)
		}
		x.Root()
		x.Used()
		path := make([]api.Fe, max(0, depth))
		if root, e := smt.Up(r, i, drawn(), path); e != api.OK && root != (api.Fe{}) {
			t.Error("Up", r, i, root, e)
		}
		smt.Check(r, drawn(), i, api.Fe{}, path)
	}
}
