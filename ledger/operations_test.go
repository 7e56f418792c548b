package ledger_test

import (
	"math"
	"slices"
	"testing"

	"causeway/api"
	"causeway/jubjub"
	"causeway/ledger"
)

// answered is an operation and what Refuses answers of it.
type answered struct {
	what string
	o    api.Op
	e    api.Errno
}

// cases are operations over the rich ledger of depth 3, one behind or ahead of each edge.
func cases() []answered {
	neutral := api.Op{Kind: api.OpWithdraw, From: 4, Amount: 1, Key: jubjub.Neutral()}
	l := []answered{
		{"a transfer of all", transfer(0, 5, 1, 0, 10), api.OK},
		{"a transfer of nothing", transfer(0, 5, 1, 0, 0), api.OK},
		{"of too much", transfer(0, 5, 1, 0, 11), api.ErrBalance},
		{"of far too much", transfer(0, 5, 1, 0, most), api.ErrBalance},
		{"a nonce too high", transfer(0, 5, 1, 1, 1), api.ErrNonce},
		{"a nonce far too high", transfer(0, 5, 1, most, 1), api.ErrNonce},
		{"a nonce too low", transfer(1, 5, 2, 6, 1), api.ErrNonce},
		{"a nonce of 0", transfer(1, 5, 2, 0, 1), api.ErrNonce},
		{"the last nonce", transfer(2, 5, 3, most, 1), api.ErrNonce},
		{"the last nonce but one", transfer(3, 5, 4, most-1, 1), api.OK},
		{"another key", transfer(0, 5, 2, 0, 1), api.ErrAccount},
		{"from an empty account", transfer(6, 5, 1, 0, 0), api.ErrAccount},
		{"from an empty account, by the key of one", api.Op{Kind: api.OpTransfer, From: 6, To: 5}, api.ErrAccount},
		{"to an empty account", transfer(0, 6, 1, 0, 1), api.ErrAccount},
		{"to itself", transfer(0, 0, 1, 0, 1), api.ErrSelf},
		{"to one with the same key", transfer(0, 5, 1, 0, 1), api.OK},
		{"to a full account", transfer(0, 1, 1, 0, 1), api.ErrOverflow},
		{"nothing to a full account", transfer(0, 1, 1, 0, 0), api.OK},
		{"to one that is full then", transfer(0, 3, 1, 0, 3), api.OK},
		{"to one that would be more than full", transfer(0, 3, 1, 0, 4), api.ErrOverflow},
		{"all that a full account has", transfer(1, 5, 2, 7, most), api.OK},
		{"from beyond", transfer(8, 0, 1, 0, 1), api.ErrIndex},
		{"to beyond", transfer(0, 8, 1, 0, 1), api.ErrIndex},

		{"a withdrawal of all", withdrawal(0, 1, 0, 10), api.OK},
		{"a withdrawal of nothing", withdrawal(0, 1, 0, 0), api.OK},
		{"a withdrawal of nothing from one that has nothing", withdrawal(5, 1, 3, 0), api.OK},
		{"of too much", withdrawal(0, 1, 0, 11), api.ErrBalance},
		{"a nonce too high", withdrawal(0, 1, 1, 1), api.ErrNonce},
		{"a nonce too low", withdrawal(1, 2, 6, 1), api.ErrNonce},
		{"the last nonce", withdrawal(2, 3, most, 1), api.ErrNonce},
		{"the last nonce but one", withdrawal(3, 4, most-1, 1), api.OK},
		{"another key", withdrawal(0, 2, 0, 1), api.ErrAccount},
		{"from an empty account", withdrawal(7, 1, 0, 0), api.ErrAccount},
		{"from an empty account, by the key of one", api.Op{Kind: api.OpWithdraw, From: 7}, api.ErrAccount},
		{"all that a full account has", withdrawal(1, 2, 7, most), api.OK},
		{"by the neutral key", neutral, api.OK},
		{"from beyond", withdrawal(8, 1, 0, 1), api.ErrIndex},

		{"a deposit", deposit(0, 1, 5), api.OK},
		{"a deposit of nothing", deposit(0, 1, 0), api.OK},
		{"a deposit to an empty account", deposit(6, 1, 5), api.OK},
		{"a deposit of nothing to an empty account", deposit(7, 5, 0), api.OK},
		{"a deposit of the most to an empty account", deposit(7, 5, most), api.OK},
		{"by another key", deposit(0, 2, 5), api.ErrAccount},
		{"nothing by another key", deposit(0, 2, 0), api.ErrAccount},
		{"to a full account", deposit(1, 2, 1), api.ErrOverflow},
		{"nothing to a full account", deposit(1, 2, 0), api.OK},
		{"to one that is full then", deposit(3, 4, 3), api.OK},
		{"to one that would be more than full", deposit(3, 4, 4), api.ErrOverflow},
		{"the most to one that has something", deposit(0, 1, most), api.ErrOverflow},
		{"to an account with the last nonce", deposit(2, 3, 1), api.OK},
		{"to beyond", deposit(8, 1, 1), api.ErrIndex},
		{"by the neutral key", api.Op{Kind: api.OpDeposit, To: 7, Key: jubjub.Neutral()}, api.OK},
	}
	for _, i := range outside(3) {
		l = append(l, answered{"from beyond", transfer(i, 0, 1, 0, 1), api.ErrIndex}, answered{"to beyond", transfer(0, i, 1, 0, 1), api.ErrIndex})
		l = append(l, answered{"from beyond", withdrawal(i, 1, 0, 1), api.ErrIndex}, answered{"to beyond", deposit(i, 1, 1), api.ErrIndex})
	}
	for _, kind := range []api.OpKind{0, 4, 5, -1, 1 << 8, 1<<8 + 1, math.MinInt, math.MaxInt} {
		o := transfer(0, 5, 1, 0, 1)
		o.Kind = kind
		l = append(l, answered{"no kind", o, api.ErrKind})
	}
	for _, w := range wrongKeys() {
		l = append(l,
			answered{"a key that may not be", api.Op{Kind: api.OpDeposit, To: 6, Amount: 1, Key: w.key}, w.e},
			answered{"a key that may not be, to one that has another", api.Op{Kind: api.OpDeposit, To: 0, Amount: 1, Key: w.key}, w.e},
			answered{"a key that may not be", api.Op{Kind: api.OpTransfer, From: 0, To: 5, Key: w.key}, api.ErrAccount},
			answered{"a key that may not be", api.Op{Kind: api.OpWithdraw, From: 0, Key: w.key}, api.ErrAccount})
	}
	return append(l, unasked()...)
}

// unasked are operations whose other parts, those that their kinds don't need, are whatever.
func unasked() []answered {
	give := deposit(6, 1, 5)
	give.From, give.Nonce = mostIndex, most
	self := deposit(6, 1, 5)
	self.From = 6
	take := withdrawal(0, 1, 0, 10)
	take.To = mostIndex
	own := withdrawal(0, 1, 0, 10)
	own.To = 0
	full := withdrawal(0, 1, 0, 10)
	full.To = 1
	return []answered{
		{"a deposit's From and Nonce", give, api.OK}, {"a deposit's From is To", self, api.OK},
		{"a withdrawal's To", take, api.OK}, {"a withdrawal's To is From", own, api.OK}, {"a withdrawal's To is full", full, api.OK},
	}
}

// several are operations with more faults than one, over the same ledger: of each two that stand together in the chapter's order the first one counts.
func several() []answered {
	bad := wrongKeys()[7].key
	none := transfer(8, 8, 9, 9, most)
	none.Kind = 4
	return []answered{
		{"kind, index, self", none, api.ErrKind},
		{"index, self", transfer(8, 8, 1, 0, 1), api.ErrIndex},
		{"index of To, account", transfer(6, 8, 1, 0, 1), api.ErrIndex},
		{"index of From, account of To", transfer(8, 6, 1, 0, 1), api.ErrIndex},
		{"self, account", transfer(6, 6, 1, 0, 1), api.ErrSelf},
		{"self, key, nonce, balance", transfer(0, 0, 2, 1, most), api.ErrSelf},
		{"self, overflow", transfer(1, 1, 2, 7, 1), api.ErrSelf},
		{"key, nonce", transfer(0, 5, 2, 1, 1), api.ErrAccount},
		{"key, balance", transfer(0, 5, 2, 0, 11), api.ErrAccount},
		{"key, the last nonce", transfer(2, 5, 9, most, 1), api.ErrAccount},
		{"key, overflow", transfer(0, 1, 2, 0, 1), api.ErrAccount},
		{"nonce, balance", transfer(0, 5, 1, 1, 11), api.ErrNonce},
		{"the last nonce, balance", transfer(2, 5, 3, most, 6), api.ErrNonce},
		{"nonce, account of To", transfer(0, 6, 1, 1, 1), api.ErrNonce},
		{"nonce, overflow", transfer(0, 1, 1, 1, 1), api.ErrNonce},
		{"balance, account of To", transfer(0, 6, 1, 0, 11), api.ErrBalance},
		{"balance, overflow", transfer(0, 1, 1, 0, 11), api.ErrBalance},

		{"index, account", withdrawal(8, 9, 9, 9), api.ErrIndex},
		{"account, nonce", withdrawal(6, 1, 1, 0), api.ErrAccount},
		{"account, balance", withdrawal(6, 1, 0, 1), api.ErrAccount},
		{"key, nonce, balance", withdrawal(0, 2, 1, 11), api.ErrAccount},
		{"nonce, balance", withdrawal(0, 1, 1, 11), api.ErrNonce},
		{"the last nonce, balance", withdrawal(2, 3, most, 6), api.ErrNonce},

		{"index, a key that may not be", api.Op{Kind: api.OpDeposit, To: 8, Key: bad}, api.ErrIndex},
		{"a key that may not be, overflow", api.Op{Kind: api.OpDeposit, To: 1, Amount: 1, Key: bad}, api.ErrPoint},
		{"no point, another key", api.Op{Kind: api.OpDeposit, To: 0, Amount: 1}, api.ErrCurve},
		{"another key, overflow", deposit(1, 1, 1), api.ErrAccount},
	}
}

// TestRefuses: P14.2, each reason to refuse an operation, at its edges, and the first one of several; Refuses changes nothing, Apply answers the same.
func TestRefuses(t *testing.T) {
	x, m := start(t, 3, few(), rich())
	for _, c := range append(cases(), several()...) {
		if want := m.refusal(c.o); want != c.e {
			t.Error("the tests' own", c.what, c.o, want, "and not", c.e)
		}
		if e := x.Refuses(c.o); e != c.e {
			t.Error("Refuses", c.what, c.o, e, "and not", c.e)
		}
		y, behind := x.Copy(), m.copied()
		behind.apply(c.o)
		if e := y.Apply(c.o); e != c.e {
			t.Error("Apply", c.what, c.o, e, "and not", c.e)
		}
		mustTell(t, c.what, y, behind, all(3)...)
	}
	mustBe(t, "behind all these", x, m, all(3)...)
}

// TestNotAsked: P14.2, of a signature, Forced and Void Refuses asks nothing, and Apply nothing of the first two.
func TestNotAsked(t *testing.T) {
	x, m := start(t, 3, few(), rich())
	for _, c := range append(cases(), several()...) {
		for n := range 8 {
			o := c.o
			o.Forced, o.Void = n&1 != 0, n&2 != 0
			if n&4 != 0 {
				o.Sig = api.Signature{R: wrongKeys()[6].key, S: api.Word{most, most, most, most}}
			}
			if e := x.Refuses(o); e != c.e {
				t.Error("Refuses", c.what, o, e, "and not", c.e)
			}
		}
	}
	for forced := range 2 {
		o := transfer(0, 5, 1, 0, 1)
		o.Forced = forced == 1
		o.Sig.R = wrongKeys()[0].key
		y, behind := x.Copy(), m.copied()
		behind.apply(o)
		apply(t, y, o)
		mustBe(t, "Forced", y, behind, all(3)...)
	}
}

// TestVoid: P14.2, one with Void is OK just if Refuses is not, whatever the reason, and ErrArg else; it changes nothing.
func TestVoid(t *testing.T) {
	x, m := start(t, 3, few(), rich())
	for _, c := range append(cases(), several()...) {
		want := api.OK
		if c.e == api.OK {
			want = api.ErrArg
		}
		for _, forced := range []bool{false, true} {
			o := c.o
			o.Void, o.Forced = true, forced
			if e := x.Apply(o); e != want {
				t.Error("Apply", c.what, o, e, "and not", want)
			}
			if e, n := x.Batch([]api.Op{o}); e != want || n != 0 && e != api.OK || n != 1 && e == api.OK {
				t.Error("Batch", c.what, o, e, n, "and not", want)
			}
		}
		mustTell(t, c.what, x, m, all(3)...)
	}
	mustBe(t, "behind all these", x, m, all(3)...)
}

// TestApply: P14.2, what the operations do, by drawn histories; each answer comes about.
func TestApply(t *testing.T) {
	s := source(143)
	seen := map[api.Errno]int{}
	keys := []api.Ed{key(1), key(2), key(3), jubjub.Neutral()}
	for range 8 {
		x, m := start(t, 3, few(), rich())
		for n := range 100 {
			o := s.op(m, keys)
			if e, want := x.Refuses(o), m.refusal(o); e != want {
				t.Error("Refuses", o, e, "and not", want)
			}
			want := m.apply(o)
			seen[want]++
			if e := x.Apply(o); e != want {
				t.Error("Apply", o, e, "and not", want)
			}
			mustTell(t, "a history", x, m, all(3)...)
			if n%16 == 15 {
				mustBe(t, "a history", x, m, all(3)...)
			}
		}
	}
	for _, e := range []api.Errno{api.OK, api.ErrKind, api.ErrIndex, api.ErrSelf, api.ErrAccount, api.ErrNonce, api.ErrBalance, api.ErrOverflow, api.ErrCurve, api.ErrPoint, api.ErrArg} {
		if seen[e] < 2 {
			t.Error("too seldom", e, seen[e])
		}
	}
	if seen[api.OK] < 200 {
		t.Error("too few go", seen)
	}
}

// batchOf draws so many operations of which each goes behind those ahead of it; the model stays.
func (s *source) batchOf(m model, n int, keys []api.Ed) []api.Op {
	m = m.copied()
	var l []api.Op
	for len(l) < n {
		o := s.op(m, keys)
		if m.copied().apply(o) == api.OK {
			m.apply(o)
			l = append(l, o)
		}
	}
	return l
}

// TestBatch: P14.2, Batch is Apply one by one, of none and up to MaxOps.
func TestBatch(t *testing.T) {
	s := source(144)
	keys := []api.Ed{key(1), key(2), key(3)}
	for _, n := range []int{0, 1, 2, 7, api.MaxOps - 1, api.MaxOps} {
		x, m := start(t, 3, few(), rich())
		one := x.Copy()
		ops := s.batchOf(m, n, keys)
		if e, count := x.Batch(ops); e != api.OK || count != n {
			t.Error("Batch", n, e, count)
		}
		for _, o := range ops {
			m.apply(o)
			apply(t, one, o)
		}
		mustBe(t, "Batch", x, m, all(3)...)
		mustBe(t, "one by one", one, m, all(3)...)
	}
	x, m := start(t, 3, few(), rich())
	for _, ops := range [][]api.Op{nil, {}, make([]api.Op, 0, 70)} {
		if e, n := x.Batch(ops); e != api.OK || n != 0 {
			t.Error("Batch of none", e, n)
		}
	}
	mustBe(t, "Batch of none", x, m, all(3)...)
}

// TestBatchInOrder: P14.2, an operation of a batch meets what those ahead of it left.
func TestBatchInOrder(t *testing.T) {
	x, m := made(t, 2, few()), modelOf(2, few())
	ops := []api.Op{deposit(0, 1, 5), deposit(1, 2, 0), transfer(0, 1, 1, 0, 5), withdrawal(1, 2, 0, 5), transfer(0, 1, 1, 1, 0)}
	ops = append(ops, ops[2])
	ops[5].Void = true // its nonce is gone by now
	if e, n := x.Batch(ops); e != api.OK || n != len(ops) {
		t.Error("Batch", e, n)
	}
	for _, o := range ops {
		m.apply(o)
	}
	mustBe(t, "Batch", x, m, all(2)...)
	for from := 1; from < 3; from++ {
		if e, n := made(t, 2, few()).Batch(ops[from:]); e != api.ErrAccount || n != 2-from {
			t.Error("Batch without what stood ahead", from, e, n)
		}
	}
}

// TestBatchRefused: P14.2, the first error and its number, at each place, and nothing has changed.
func TestBatchRefused(t *testing.T) {
	s := source(145)
	keys := []api.Ed{key(1), key(2), key(3)}
	for _, n := range []int{1, 2, 9, api.MaxOps} {
		x, m := start(t, 3, few(), rich())
		good := s.batchOf(m, n, keys)
		for _, place := range []int{0, n / 3, n / 2, n - 1} {
			for _, bad := range []answered{{o: deposit(8, 1, 1), e: api.ErrIndex}, {e: api.ErrKind}, {o: api.Op{Kind: api.OpDeposit, To: 6}, e: api.ErrCurve}} {
				ops := slices.Clone(good)
				ops[place] = bad.o
				if place+1 < n {
					ops[n-1] = transfer(0, 0, 1, 0, 1) // another error, behind it
				}
				if e, at := x.Batch(ops); e != bad.e || at != place {
					t.Error("Batch", n, place, e, at, "and not", bad.e)
				}
				mustTell(t, "a refused batch", x, m, all(3)...)
			}
		}
		mustBe(t, "refused batches", x, m, all(3)...)
	}
}

// TestBatchVoid: P14.2, an operation with Void that would go is refused at its place.
func TestBatchVoid(t *testing.T) {
	x, m := start(t, 3, few(), rich())
	void := transfer(0, 5, 1, 0, 10)
	void.Void = true
	ops := []api.Op{void, withdrawal(0, 1, 0, 1)}
	if e, n := x.Batch(ops); e != api.ErrArg || n != 0 {
		t.Error("Batch", e, n)
	}
	ops = []api.Op{deposit(7, 9, 1), void, withdrawal(0, 1, 0, 1)}
	if e, n := x.Batch(ops); e != api.ErrArg || n != 1 {
		t.Error("Batch", e, n)
	}
	mustBe(t, "a refused batch", x, m, all(3)...)
	ops[1], ops[2] = ops[2], ops[1]
	if e, n := x.Batch(ops); e != api.OK || n != 3 {
		t.Error("Batch", e, n)
	}
	m.accounts[7], m.accounts[0] = account(9, 0, 1), account(1, 1, 9)
	mustBe(t, "a batch", x, m, all(3)...)
}

// TestBatchCount: P14.2 and P4 of DOC.md, ErrCount of more than MaxOps, ahead of all operations' errors.
func TestBatchCount(t *testing.T) {
	x, m := start(t, 3, few(), rich())
	good := make([]api.Op, 3*api.MaxOps)
	for i := range good {
		good[i] = deposit(0, 1, 1)
	}
	for _, n := range []int{api.MaxOps + 1, api.MaxOps + 2, 3 * api.MaxOps} {
		for _, ops := range [][]api.Op{good[:n], make([]api.Op, n)} {
			if e, at := x.Batch(ops); e != api.ErrCount || at != 0 {
				t.Error("Batch", n, e, at)
			}
		}
	}
	mustBe(t, "too many", x, m, all(3)...)
	if e, n := x.Batch(good[:api.MaxOps]); e != api.OK || n != api.MaxOps {
		t.Error("Batch", e, n)
	}
	m.accounts[0] = account(1, 0, 10+api.MaxOps)
	mustBe(t, "MaxOps", x, m, all(3)...)
}

// TestBatchOfNoLedger: P14.2 and P4 of DOC.md, ErrMade ahead of ErrCount.
func TestBatchOfNoLedger(t *testing.T) {
	for _, x := range []*ledger.Ledger{nil, {}} {
		for _, n := range []int{0, 1, api.MaxOps, api.MaxOps + 1} {
			if e, at := x.Batch(make([]api.Op, n)); e != api.ErrMade || at != 0 {
				t.Error("Batch", n, e, at)
			}
		}
	}
}
