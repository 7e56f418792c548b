package ledger_test

import (
	"math/big"
	"slices"
	"sync"
	"testing"

	"causeway/api"
	"causeway/ledger"
	"causeway/smt"
)

// TestRule: P14.4, the root is that of a tree of the accounts' leaves, whatever the way on which they came; smt.Check takes each account's leaf with its path, and no other account's.
func TestRule(t *testing.T) {
	s := source(151)
	keys := []api.Ed{key(1), key(2), key(3)}
	for range 4 {
		x, m := start(t, 3, few(), rich())
		for range 20 {
			o := s.op(m, keys)
			m.apply(o)
			x.Apply(o)
		}
		tree, _ := smt.New(3, few())
		straight := made(t, 3, few())
		for _, entry := range x.Entries() {
			tree.Set(uint64(entry.Index), leaf(t, few(), entry.Account))
			put(t, straight, entry.Index, entry.Account)
		}
		mustBe(t, "straight", straight, m, all(3)...)
		if x.Root() != tree.Root() {
			t.Error("Root", x.Root(), tree.Root())
		}
		for _, i := range all(3) {
			a, _ := x.Get(i)
			own, e := ledger.Leaf(few(), a)
			path, e2 := x.Path(i)
			if e != api.OK || e2 != api.OK || smt.Check(few(), x.Root(), uint64(i), own, path) != api.OK {
				t.Error("smt.Check", i, e, e2)
			}
			a.Balance ^= 1
			other := leaf(t, few(), a)
			if e := smt.Check(few(), x.Root(), uint64(i), other, path); e != api.ErrPath {
				t.Error("smt.Check of another account", i, e)
			}
		}
	}
}

// moved is by how much an operation changes Total.
func moved(o api.Op) *big.Int {
	switch amount := whole(o.Amount); {
	case o.Void:
		return new(big.Int)
	case o.Kind == api.OpDeposit:
		return amount
	case o.Kind == api.OpWithdraw:
		return amount.Neg(amount)
	}
	return new(big.Int)
}

// TestConservation: P14.5, a transfer leaves Total, a deposit raises it by Amount, a withdrawal lowers it; what is void, or refused, changes nothing, batches neither.
func TestConservation(t *testing.T) {
	s := source(152)
	keys := []api.Ed{key(1), key(2), key(3)}
	kinds := map[api.OpKind]int{}
	for range 3 {
		x, m := start(t, 3, few(), rich())
		sum := m.total()
		for range 60 {
			o := s.op(m, keys)
			before, root := x.Entries(), x.Root()
			e := x.Apply(o)
			if m.apply(o) == api.OK {
				sum.Add(sum, moved(o))
				kinds[o.Kind]++
			}
			if total := number(x.Total()); total.Cmp(sum) != 0 {
				t.Error("Total", o, total, "and not", sum)
			}
			if e != api.OK || o.Void {
				if !slices.Equal(before, x.Entries()) || x.Root() != root {
					t.Error("changed", o, e)
				}
			}
		}
		ops := s.batchOf(m, 20, keys)
		for _, o := range ops {
			sum.Add(sum, moved(o))
		}
		if e, _ := x.Batch(ops); e != api.OK || number(x.Total()).Cmp(sum) != 0 {
			t.Error("Batch", e, x.Total(), sum)
		}
	}
	for _, kind := range []api.OpKind{api.OpTransfer, api.OpDeposit, api.OpWithdraw} {
		if kinds[kind] < 10 {
			t.Error("too few go", kinds)
		}
	}
}

// TestOnce: P14.6, a transfer or withdrawal that was done is refused by ErrNonce if it comes again: at once, later, and in one batch.
func TestOnce(t *testing.T) {
	for _, o := range []api.Op{transfer(0, 5, 1, 0, 1), transfer(0, 5, 1, 0, 0), transfer(0, 5, 1, 0, 10), withdrawal(0, 1, 0, 0), withdrawal(0, 1, 0, 10), transfer(3, 0, 4, most-1, 2), withdrawal(3, 4, most-1, 2)} {
		x, m := start(t, 3, few(), rich())
		if e, n := x.Batch([]api.Op{o, deposit(6, 6, 6), o}); e != api.ErrNonce || n != 2 {
			t.Error("Batch", o, e, n)
		}
		mustTell(t, "a refused batch", x, m, all(3)...)
		apply(t, x, o)
		for i := range uint64(4) {
			if e, e2 := x.Refuses(o), x.Apply(o); e != api.ErrNonce || e2 != api.ErrNonce {
				t.Error("again", o, i, e, e2)
			}
			x.Apply(deposit(0, 1, 20))
			x.Apply(transfer(0, 5, 1, i+1, 1))
			x.Apply(transfer(0, 5, 1, i, 1))
		}
	}
}

// TestDepositAgain: P14.6 is of transfers and withdrawals alone: a deposit may come again.
func TestDepositAgain(t *testing.T) {
	x, m := start(t, 3, few(), rich())
	for range 3 {
		apply(t, x, deposit(0, 1, 5))
		apply(t, x, deposit(6, 1, 0))
	}
	m.accounts[0], m.accounts[6] = account(1, 0, 25), account(1, 0, 0)
	mustBe(t, "deposits", x, m, all(3)...)
}

// orders are all orders of a list.
func orders(l []api.Op) [][]api.Op {
	if len(l) == 0 {
		return [][]api.Op{nil}
	}
	var all [][]api.Op
	for i := range l {
		rest := slices.Delete(slices.Clone(l), i, i+1)
		for _, order := range orders(rest) {
			all = append(all, append([]api.Op{l[i]}, order...))
		}
	}
	return all
}

// TestOrder: P14.7, operations that touch no common account may change places: each answers the same, and the ledger is one behind them.
func TestOrder(t *testing.T) {
	gone := withdrawal(2, 3, most, 1) // refused, so that Void may be
	gone.Void, gone.Forced = true, true
	for _, ops := range [][]api.Op{
		{transfer(0, 5, 1, 0, 10), deposit(6, 6, 6), withdrawal(1, 2, 7, 9), transfer(3, 4, 4, most-1, 2)},
		{deposit(0, 1, 0), deposit(7, 8, most), gone, withdrawal(1, 2, 7, most)},
		{deposit(0, 1, 1), deposit(6, 1, 1), deposit(7, 1, 1), withdrawal(5, 1, 3, 0)},
	} {
		x, m := start(t, 3, few(), rich())
		for _, o := range ops {
			if e := m.apply(o); e != api.OK {
				t.Fatal("the tests' own", o, e)
			}
		}
		root := m.node(t, 3, 0)
		for _, order := range orders(ops) {
			one, many := x.Copy(), x.Copy()
			for _, o := range order {
				apply(t, one, o)
			}
			if e, n := many.Batch(order); e != api.OK || n != len(order) {
				t.Error("Batch", e, n)
			}
			mustTell(t, "one by one", one, m, all(3)...)
			mustTell(t, "a batch", many, m, all(3)...)
			if one.Root() != root || many.Root() != root {
				t.Error("Root", one.Root(), many.Root(), root)
			}
		}
	}
}

// TestRefusedOrder: P14.7, of such operations one that is refused is refused at every place, and by the same error.
func TestRefusedOrder(t *testing.T) {
	s := source(153)
	x, m := start(t, 3, few(), rich())
	others := []api.Op{transfer(0, 5, 1, 0, 10), deposit(6, 6, 6)}
	for range 60 {
		o := s.op(m, goodKeys())
		o.From, o.To = pick[uint32](&s, 1, 2, 3, 4), pick[uint32](&s, 1, 2, 3, 4, 7)
		want := x.Copy().Apply(o)
		for _, ahead := range orders(others) {
			for n := range 3 {
				y := x.Copy()
				for _, other := range ahead[:n] {
					apply(t, y, other)
				}
				if e := y.Apply(o); e != want {
					t.Error("Apply", o, e, "and not", want)
				}
			}
		}
	}
}

// TestCopy: P14.3, P14.8, a copy is the same ledger, and shares nothing: what is done to one is not done to the other, whichever goes first.
func TestCopy(t *testing.T) {
	x, m := start(t, 3, few(), rich())
	y := x.Copy()
	z := y.Copy()
	mustBe(t, "a copy", y, m, all(3)...)
	mustBe(t, "a copy's copy", z, m, all(3)...)
	ofX, ofY, ofZ := m.copied(), m.copied(), m.copied()
	give := deposit(6, 6, 6)
	apply(t, x, give)
	ofX.apply(give)
	put(t, y, 0, api.Account{})
	delete(ofY.accounts, 0)
	batch := []api.Op{transfer(0, 5, 1, 0, 4), deposit(7, 7, 7)}
	if e, _ := z.Batch(batch); e != api.OK {
		t.Error("Batch", e)
	}
	for _, o := range batch {
		ofZ.apply(o)
	}
	mustBe(t, "its copy", y, ofY, all(3)...)
	*y = ledger.Ledger{}
	// Of one behind a batch, too, a copy goes on alone.
	w := z.Copy()
	apply(t, w, deposit(6, 3, 1))
	put(t, w, 7, api.Account{})
	mustBe(t, "the ledger", x, ofX, all(3)...)
	mustBe(t, "the copy's copy", z, ofZ, all(3)...)
}

// TestAnswersAlone: P14.8, an answer that is written over, with what lies behind it, changes no other one, nor the ledger.
func TestAnswersAlone(t *testing.T) {
	x, m := start(t, 3, few(), rich())
	y := x.Copy()
	for _, i := range all(3) {
		first, _ := x.Path(i)
		second, _ := x.Path(i)
		entries, again := x.Entries(), x.Entries()
		clear(first[:cap(first)])
		clear(entries[:cap(entries)])
		if !slices.Equal(second, m.path(t, i)) || !slices.Equal(again, m.entries()) {
			t.Error("answers share memory", i)
		}
		a, _ := x.Get(i)
		a.Balance, a.Key.X[0] = 4, 4
		mustBe(t, "behind written answers", x, m, all(3)...)
		mustBe(t, "the copy", y, m, all(3)...)
	}
}

// TestArgumentsStay: P14.8, operations that are handed in stay, with what lies behind them, and of refused calls, too; nothing of them is kept.
func TestArgumentsStay(t *testing.T) {
	s := source(154)
	x, m := start(t, 3, few(), rich())
	long := append(s.batchOf(m, 6, goodKeys()), api.Op{}, deposit(9, 9, 9))
	old := slices.Clone(long)
	for _, n := range []int{0, 3, 6, 7, 8} {
		y, behind := x.Copy(), m.copied()
		e, at := y.Batch(long[:n])
		if !slices.Equal(long, old) {
			t.Error("operations are changed", n)
		}
		if n < 7 {
			for _, o := range long[:n] {
				behind.apply(o)
			}
		}
		clear(long)
		mustBe(t, "operations are gone", y, behind, all(3)...)
		copy(long, old)
		if again, at2 := x.Copy().Batch(long[:n]); again != e || at2 != at {
			t.Error("another time otherwise", n, e, again, at, at2)
		}
	}
}

// TestNothingElse: P3 of DOC.md, calls side by side answer what they answer alone: those that only ask, of one ledger, and all of ledgers and their copies.
func TestNothingElse(t *testing.T) {
	s := source(155)
	x, m := start(t, 3, few(), rich())
	asked := append(cases(), several()...)
	var group sync.WaitGroup
	for i := range 8 {
		y, behind := x.Copy(), m.copied()
		ops := s.batchOf(m, 12, []api.Ed{key(1), key(2)})
		group.Go(func() {
			mustBe(t, "side by side", x, m, all(3)...)
			mustTell(t, "a copy side by side", x.Copy(), m, all(3)...)
			for n := range asked {
				c := asked[(n+i*9)%len(asked)]
				if e := x.Refuses(c.o); e != c.e {
					t.Error("Refuses side by side", c.what, e)
				}
			}
			for _, o := range ops {
				behind.apply(o)
			}
			if e, n := y.Batch(ops); e != api.OK || n != len(ops) {
				t.Error("Batch side by side", e, n)
			}
			mustBe(t, "Batch side by side", y, behind, all(3)...)
		})
	}
	group.Wait()
}

// TestAgain: P3 of DOC.md, the same calls make the same ledger, whatever the order of maps.
func TestAgain(t *testing.T) {
	s := source(156)
	accounts := map[uint32]api.Account{}
	for range 40 {
		accounts[uint32(s.word())] = account(s.below(6), 0, s.word())
	}
	first, m := start(t, 32, few(), accounts)
	for range 4 {
		again := made(t, 32, few())
		for i, a := range accounts {
			put(t, again, i, a)
		}
		mustTell(t, "again", again, m)
		if again.Root() != first.Root() || again.Total() != first.Total() {
			t.Error("Root and Total", again.Root(), again.Total())
		}
	}
}

// TestWhateverIsGiven: P1 and P4 of DOC.md, there is an answer to whatever is given, and beside an error nothing.
func TestWhateverIsGiven(t *testing.T) {
	s := source(157)
	drawn := func() api.Fe { return api.Fe{s.word(), s.word(), s.word(), s.word()} }
	small := func(n uint64) int { return int(s.below(n)) - 2 }
	for range 200 {
		depth, r := small(40), api.Rounds{Width: small(14), Full: small(8), Partial: small(5)}
		x, e := ledger.New(depth, r)
		if (x == nil) != (e != api.OK) {
			t.Error("New", depth, r, e)
		}
		i := uint32(s.word() >> (s.word() % 64))
		a := api.Account{Key: api.Ed{X: drawn(), Y: drawn()}, Nonce: s.word(), Balance: s.word()}
		if e := x.Put(i, a); e == api.OK || e == api.ErrMade != (x == nil) {
			t.Error("Put", depth, r, i, e)
		}
		if got, e := x.Get(i); got != (api.Account{}) || e == api.ErrMade != (x == nil) {
			t.Error("Get", i, got, e)
		}
		if path, e := x.Path(i); len(path) != 0 != (e == api.OK) {
			t.Error("Path", i, len(path), e)
		}
		o := api.Op{Kind: api.OpKind(small(8)), From: i, To: uint32(s.word()), Amount: s.word(), Nonce: s.word(), Key: a.Key, Forced: s.often(1, 2)}
		o.Sig = api.Signature{R: a.Key, S: api.Word(drawn())}
		if e, e2 := x.Refuses(o), x.Apply(o); e == api.OK || e != e2 {
			t.Error("Refuses and Apply", o, e, e2)
		}
		x.Batch([]api.Op{o, o})
		if leaf, e := ledger.Leaf(r, a); e == api.OK || leaf != (api.Fe{}) {
			t.Error("Leaf", r, a, leaf, e)
		}
		if x.Total() != (api.Word{}) || len(x.Entries()) != 0 {
			t.Error("Total and Entries", x.Total(), x.Entries())
		}
	}
}
