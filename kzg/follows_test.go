package kzg_test

import (
	"reflect"
	"slices"
	"sync"
	"testing"

	"causeway/api"
	"causeway/curve"
	"causeway/kzg"
	"causeway/poly"
)

// commit and open are the calls' answers to what may be.
func commit(t *testing.T, s kzg.SRS, a []api.Fe) api.G1 {
	t.Helper()
	c, e := kzg.Commit(s, a)
	if e != api.OK {
		t.Fatal("Commit", a, e)
	}
	return c
}

func open(t *testing.T, s kzg.SRS, a []api.Fe, at api.Fe) kzg.Claim {
	t.Helper()
	value, w, e := kzg.Open(s, a, at)
	if e != api.OK {
		t.Fatal("Open", a, at, e)
	}
	return kzg.Claim{C: commit(t, s, a), At: at, Value: value, W: w}
}

// TestValueAtTau: P8.4, over an SRS of tau Commit is the value at tau times the generator, and linear.
func TestValueAtTau(t *testing.T) {
	t.Parallel()
	s := source(111)
	for _, tau := range []api.Fe{whole(1), whole(-1), s.wide()} {
		srs := setup(t, tau, 9)
		for range 8 {
			a, b, by := s.list(10), s.list(7), s.element()
			value, _ := poly.Eval(a, tau)
			if commit(t, srs, a) != of1(value) {
				t.Error("Commit", tau, a)
			}
			sum, _ := poly.Add(a, b)
			both, _ := curve.Add1(commit(t, srs, a), commit(t, srs, b))
			if commit(t, srs, sum) != both {
				t.Error("Commit of a sum", tau, a, b)
			}
			scaled, _ := poly.Scale(a, by)
			times, _ := curve.Mul1(commit(t, srs, a), api.Word(by))
			if commit(t, srs, scaled) != times {
				t.Error("Commit of a multiple", tau, a, by)
			}
		}
	}
}

// TestHonest: P8.4 and G2 of DOC.md, Verify takes Open's claim, at tau too, and with no other Value.
func TestHonest(t *testing.T) {
	t.Parallel()
	s := source(112)
	for _, tau := range []api.Fe{whole(1), whole(-2), s.wide()} {
		srs := setup(t, tau, 6)
		for _, a := range s.polynomials(7) {
			for _, at := range []api.Fe{{}, s.wide(), tau} {
				c := open(t, srs, a, at)
				mustBe(t, "Verify", kzg.Verify(srs, c), true)
				c.Value = plus(c.Value, whole(int64(s.word()%9)+1))
				mustBe(t, "Verify of another value", kzg.Verify(srs, c), false)
			}
		}
	}
}

// TestTwoValues: P8.5, where Verify takes two claims of one C and At with unlike values, then (tau - At) (W - W') is (v' - v) G[0]; and with no other W'.
func TestTwoValues(t *testing.T) {
	t.Parallel()
	s := source(113)
	for range 4 {
		l := scaled(s.wide(), 3, s.wide(), s.wide())
		srs, tau := l.srs(), over(l.x, l.one)
		first := l.good(&s)
		second := first
		second.value = s.wide()
		second.w = over(minus(first.c, times(second.value, l.g[0])), minus(tau, first.at))
		mustBe(t, "Verify", kzg.Verify(srs, first.claim()), true)
		mustBe(t, "Verify", kzg.Verify(srs, second.claim()), true)
		less, _ := curve.Neg1(of1(second.w))
		apart, _ := curve.Add1(of1(first.w), less)
		left, _ := curve.Mul1(apart, api.Word(minus(tau, first.at)))
		right, _ := curve.Mul1(srs.G[0], api.Word(minus(second.value, first.value)))
		if left != right {
			t.Error("(tau - At) (W - W')", l, first, second)
		}
		second.w = plus(second.w, whole(1))
		mustBe(t, "Verify", kzg.Verify(srs, second.claim()), false)
	}
}

// TestManyHonest: P8.7, VerifyMany takes what OpenMany answers, and with no value else.
func TestManyHonest(t *testing.T) {
	t.Parallel()
	s := source(114)
	srs := setup(t, s.wide(), 6)
	all := s.polynomials(7)
	var c []api.G1
	for _, a := range all {
		c = append(c, commit(t, srs, a))
	}
	for n := 1; n <= len(all); n++ {
		at, by := s.element(), s.wide()
		values, w, e := kzg.OpenMany(srs, all[:n], at, by)
		if e != api.OK {
			t.Fatal("OpenMany", n, e)
		}
		mustBe(t, "VerifyMany", kzg.VerifyMany(srs, c[:n], at, values, by, w), true)
		values[n-1] = plus(values[n-1], whole(1))
		mustBe(t, "VerifyMany", kzg.VerifyMany(srs, c[:n], at, values, by, w), false)
	}
}

// TestAllHonest: P8.7, VerifyAll takes what Verify takes one by one, by whatever.
func TestAllHonest(t *testing.T) {
	t.Parallel()
	s := source(115)
	srs := setup(t, s.wide(), 6)
	var l []kzg.Claim
	for _, a := range s.polynomials(7) {
		l = append(l, open(t, srs, a, s.element()))
		mustBe(t, "Verify", kzg.Verify(srs, l[len(l)-1]), true)
		for _, by := range []api.Fe{{}, whole(1), s.wide()} {
			mustBe(t, "VerifyAll", kzg.VerifyAll(srs, l, by), true)
		}
	}
}

// TestOfOne: P8.7, of one claim all are one: Open and OpenMany, Verify, VerifyMany and VerifyAll.
func TestOfOne(t *testing.T) {
	t.Parallel()
	s := source(116)
	for _, l := range s.various() {
		srs := l.srs()
		a, at := s.list(len(l.g)), s.element()
		value, w, _ := kzg.Open(srs, a, at)
		for _, by := range []api.Fe{{}, whole(1), s.wide()} {
			values, many, e := kzg.OpenMany(srs, [][]api.Fe{a}, at, by)
			if !slices.Equal(values, []api.Fe{value}) || many != w || e != api.OK {
				t.Error("OpenMany of one", l, a, at, by)
			}
			for _, x := range []stated{l.good(&s), {c: s.wide(), at: s.wide(), value: s.wide(), w: s.wide()}} {
				c := x.claim()
				one := kzg.Verify(srs, c)
				all := kzg.VerifyAll(srs, []kzg.Claim{c}, by)
				some := kzg.VerifyMany(srs, []api.G1{c.C}, c.At, []api.Fe{c.Value}, by, c.W)
				if all != one || some != one {
					t.Error("of one claim", l, x, by, one, all, some)
				}
			}
		}
	}
}

// TestMemory: P8.8, P2 of DOC.md: what is handed in stays, with what lies behind it, of refused calls too; nothing of it is kept.
func TestMemory(t *testing.T) {
	t.Parallel()
	ask := func(a args) []any {
		one := slices.Concat(a.lists, [][]api.Fe{nil})[0]
		claim := slices.Concat(a.claims, []kzg.Claim{{}})[0]
		c, e := kzg.Commit(a.s, one)
		value, w, e2 := kzg.Open(a.s, one, a.at)
		values, w2, e3 := kzg.OpenMany(a.s, a.lists, a.at, a.by)
		is, e4 := kzg.Consistent(a.s)
		return []any{
			c, e, value, w, e2, values, w2, e3, is, e4, kzg.Check(a.s), kzg.Verify(a.s, claim),
			kzg.VerifyAll(a.s, a.claims, a.by), kzg.VerifyMany(a.s, a.c, a.at, a.values, a.by, a.w),
		}
	}
	faults := []fault{{"", api.OK, func(a *args) {}}}
	for _, c := range calls() {
		faults = append(faults, c.faults[10:]...)
	}
	for _, f := range faults {
		all := fresh()
		f.in(&all)
		all.s.G = append(all.s.G, flagged())
		all.c, all.values = append(all.c, flagged()), append(all.values, above()[0])
		all.claims = append(all.claims, kzg.Claim{C: flagged()})
		for i := range all.lists {
			all.lists[i] = append(all.lists[i], above()[0])
		}
		all.lists = append(all.lists, above())
		old := all.clone()
		first := ask(all.ahead())
		if !reflect.DeepEqual(all, old) {
			t.Error("the arguments are changed", f.name)
		}
		clear(all.s.G)
		if !reflect.DeepEqual(ask(old.ahead()), first) {
			t.Error("the calls answer another time otherwise", f.name)
		}
	}
}

// ahead are the arguments without the last of each list, which lies behind them.
func (a args) ahead() args {
	last := len(a.lists) - 1
	a.lists = slices.Clone(a.lists[:last])
	for i, l := range a.lists {
		a.lists[i] = l[:len(l)-1]
	}
	a.s.G, a.claims = a.s.G[:len(a.s.G)-1], a.claims[:len(a.claims)-1]
	a.c, a.values = a.c[:len(a.c)-1], a.values[:len(a.values)-1]
	return a
}

// TestAnswersAlone: P8.8, an answer that is written over changes no other one, and no call's next.
func TestAnswersAlone(t *testing.T) {
	t.Parallel()
	for _, degree := range []int{3, 600} {
		first, second := setup(t, whole(7), degree), setup(t, whole(7), degree)
		clear(first.G[:cap(first.G)])
		if third := setup(t, whole(7), degree); !same(second, third) || !slices.Equal(second.G[:4], of(whole(7), 3).srs().G) {
			t.Error("Setup's answers share memory", degree)
		}
	}
	a := fresh()
	first, _, _ := kzg.OpenMany(a.s, a.lists, a.at, a.by)
	second, _, _ := kzg.OpenMany(a.s, a.lists, a.at, a.by)
	want := slices.Clone(second)
	clear(first[:cap(first)])
	third, _, _ := kzg.OpenMany(a.s, a.lists, a.at, a.by)
	if !slices.Equal(second, want) || !slices.Equal(third, want) || !reflect.DeepEqual(a, fresh()) {
		t.Error("OpenMany's answers share memory")
	}
}

// TestNothingElse: P3 of DOC.md, calls side by side, in whatever order, answer what they answer alone.
func TestNothingElse(t *testing.T) {
	t.Parallel()
	a := fresh()
	want := make([]api.Errno, 0)
	for _, c := range calls() {
		_, e := c.of(a)
		want = append(want, e)
	}
	s := setup(t, whole(5), 20)
	values, w, _ := kzg.OpenMany(a.s, a.lists, a.at, a.by)
	var group sync.WaitGroup
	for i := range 6 {
		group.Go(func() {
			all := calls()
			for n := range all {
				n = (5*n + i) % len(all) // another order for each; there are 8 calls
				if _, e := all[n].of(a); e != want[n] {
					t.Error("side by side", all[n].name, e)
				}
			}
			again, e := kzg.Setup(whole(5), 20)
			l, x, e2 := kzg.OpenMany(a.s, a.lists, a.at, a.by)
			if !same(again, s) || e != api.OK || !slices.Equal(l, values) || x != w || e2 != api.OK {
				t.Error("side by side", i)
			}
		})
	}
	group.Wait()
}
