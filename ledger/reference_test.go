package ledger_test

import (
	"maps"
	"math"
	"math/big"
	"slices"
	"testing"

	"causeway/api"
	"causeway/field"
	"causeway/jubjub"
	"causeway/ledger"
	"causeway/poseidon"
	"causeway/smt"
)

// model is a ledger by its accounts alone: of its tree each node is made anew from those below it.
type model struct {
	depth    int
	rounds   api.Rounds
	accounts map[uint32]api.Account
}

func modelOf(depth int, r api.Rounds) model { return model{depth, r, map[uint32]api.Account{}} }

// copied is a model of its own, the same.
func (m model) copied() model {
	m.accounts = maps.Clone(m.accounts)
	return m
}

// leaf is an account's.
func leaf(t *testing.T, r api.Rounds, a api.Account) api.Fe {
	t.Helper()
	if a == (api.Account{}) {
		return api.Fe{}
	}
	digest, e := poseidon.Hash(r, []api.Fe{a.Key.X, a.Key.Y, {a.Nonce}, {a.Balance}})
	if e != api.OK {
		t.Fatal("Hash", r, a, e)
	}
	return digest
}

// node is the index-th of the height.
func (m model) node(t *testing.T, height int, index uint64) api.Fe {
	t.Helper()
	used := false
	for i, a := range m.accounts {
		used = used || uint64(i)>>height == index && a != api.Account{}
	}
	switch {
	case height == 0:
		return leaf(t, m.rounds, m.accounts[uint32(index)])
	case !used:
		root, e := smt.Empty(height, m.rounds)
		if e != api.OK {
			t.Fatal("Empty", height, m.rounds, e)
		}
		return root
	}
	above, e := poseidon.Two(m.rounds, m.node(t, height-1, 2*index), m.node(t, height-1, 2*index+1))
	if e != api.OK {
		t.Fatal("Two", e)
	}
	return above
}

// path is a leaf's: at each height the other one of the two below the next node on its way.
func (m model) path(t *testing.T, i uint32) []api.Fe {
	t.Helper()
	var l []api.Fe
	for height := range m.depth {
		own := uint64(i) >> height
		beside := own/2*2 + 1 - own%2
		l = append(l, m.node(t, height, beside))
	}
	return l
}

// entries are the accounts that are not empty, rising by index.
func (m model) entries() []ledger.Entry {
	var l []ledger.Entry
	for i, a := range m.accounts {
		if a != (api.Account{}) {
			l = append(l, ledger.Entry{Index: i, Account: a})
		}
	}
	slices.SortFunc(l, func(a, b ledger.Entry) int { return int(int64(a.Index) - int64(b.Index)) })
	return l
}

// total is the sum of all balances.
func (m model) total() *big.Int {
	sum := new(big.Int)
	for _, a := range m.accounts {
		sum.Add(sum, whole(a.Balance))
	}
	return sum
}

// refusal is the first reason, of the chapter's in their order, to refuse an operation; OK if there is none.
func (m model) refusal(o api.Op) api.Errno {
	isTransfer, isDeposit, isWithdrawal := o.Kind == 1, o.Kind == 2, o.Kind == 3
	takes, gives := isTransfer || isWithdrawal, isTransfer || isDeposit
	beyond := func(i uint32) bool { return new(big.Int).Rsh(whole(uint64(i)), uint(m.depth)).Sign() != 0 }
	from, to, none := m.accounts[o.From], m.accounts[o.To], api.Account{}
	checked := jubjub.Check(o.Key)
	sum := new(big.Int).Add(whole(to.Balance), whole(o.Amount))
	for _, reason := range []struct {
		is bool
		e  api.Errno
	}{
		{!isTransfer && !isDeposit && !isWithdrawal, api.ErrKind},
		{takes && beyond(o.From) || gives && beyond(o.To), api.ErrIndex},
		{isTransfer && o.From == o.To, api.ErrSelf},
		{takes && (from == none || from.Key != o.Key), api.ErrAccount},
		{takes && (from.Nonce != o.Nonce || from.Nonce == most), api.ErrNonce},
		{takes && from.Balance < o.Amount, api.ErrBalance},
		{isTransfer && to == none, api.ErrAccount},
		{isDeposit && checked != api.OK, checked},
		{isDeposit && to != none && to.Key != o.Key, api.ErrAccount},
		{gives && sum.Cmp(whole(most)) > 0, api.ErrOverflow},
	} {
		if reason.is {
			return reason.e
		}
	}
	return api.OK
}

// apply does an operation, by P14.2's words.
func (m model) apply(o api.Op) api.Errno {
	e := m.refusal(o)
	switch {
	case o.Void && e == api.OK:
		return api.ErrArg
	case o.Void:
		return api.OK
	case e != api.OK:
		return e
	}
	if o.Kind == api.OpTransfer || o.Kind == api.OpWithdraw {
		from := m.accounts[o.From]
		m.accounts[o.From] = api.Account{Key: from.Key, Nonce: from.Nonce + 1, Balance: from.Balance - o.Amount}
	}
	if o.Kind == api.OpTransfer || o.Kind == api.OpDeposit {
		to := m.accounts[o.To]
		to.Balance += o.Amount
		if o.Kind == api.OpDeposit {
			to.Key = o.Key
		}
		m.accounts[o.To] = to
	}
	return api.OK
}

// mustTell tells whether a ledger says of itself, and of these accounts, what the model says.
func mustTell(t *testing.T, what string, x *ledger.Ledger, want model, indices ...uint32) {
	t.Helper()
	if x.Depth() != want.depth || x.Rounds() != want.rounds {
		t.Error(what, "Depth and Rounds", x.Depth(), x.Rounds())
	}
	if l := x.Entries(); !slices.Equal(l, want.entries()) {
		t.Error(what, "Entries", l, "and not", want.entries())
	}
	if total := number(x.Total()); total.Cmp(want.total()) != 0 {
		t.Error(what, "Total", total, "and not", want.total())
	}
	for _, i := range indices {
		if a, e := x.Get(i); a != want.accounts[i] || e != api.OK {
			t.Error(what, "Get", i, a, e, "and not", want.accounts[i])
		}
	}
}

// mustBe tells whether a ledger is as the model: its tree, too, and that smt.Check takes each account's leaf with its path.
func mustBe(t *testing.T, what string, x *ledger.Ledger, want model, indices ...uint32) {
	t.Helper()
	mustTell(t, what, x, want, indices...)
	root := want.node(t, want.depth, 0)
	if got := x.Root(); got != root {
		t.Error(what, "Root", got, "and not", root)
	}
	for _, i := range indices {
		path, e := x.Path(i)
		if !slices.Equal(path, want.path(t, i)) || e != api.OK {
			t.Error(what, "Path", i, len(path), e)
		}
		if e := smt.Check(want.rounds, root, uint64(i), leaf(t, want.rounds, want.accounts[i]), path); e != api.OK {
			t.Error(what, "smt.Check", i, e)
		}
	}
}

// start fills a ledger and its model with the same accounts.
func start(t *testing.T, depth int, r api.Rounds, l map[uint32]api.Account) (*ledger.Ledger, model) {
	t.Helper()
	x, m := made(t, depth, r), modelOf(depth, r)
	for _, i := range slices.Sorted(maps.Keys(l)) {
		put(t, x, i, l[i])
		m.accounts[i] = l[i]
	}
	return x, m
}

// rich are accounts at whose ends all reasons to refuse are near.
func rich() map[uint32]api.Account {
	return map[uint32]api.Account{
		0: account(1, 0, 10), 1: account(2, 7, most), 2: account(3, most, 5), 3: account(4, most-1, most-3),
		4: {Key: jubjub.Neutral(), Balance: 1}, 5: account(1, 3, 0),
	}
}

// op draws an operation: one that goes, as far as can be told, and of its parts some are drawn anew.
func (s *source) op(m model, keys []api.Ed) api.Op {
	last := uint32(1<<m.depth - 1)
	index := func() uint32 { return uint32(s.word()) & last }
	o := api.Op{Kind: pick(s, api.OpTransfer, api.OpDeposit, api.OpWithdraw), From: index(), To: index()}
	holder := m.accounts[o.From]
	if o.Kind == api.OpDeposit {
		holder = m.accounts[o.To]
	}
	o.Key, o.Nonce, o.Amount = holder.Key, holder.Nonce, s.below(4)
	if holder == (api.Account{}) {
		o.Key = pick(s, keys...)
	}
	if s.often(1, 3) {
		o.Amount = pick(s, holder.Balance, holder.Balance+1, holder.Balance-1, most-holder.Balance, most, most-1)
	}
	o.Void, o.Forced = s.often(1, 6), s.often(1, 2)
	o.Sig = pick(s, api.Signature{}, api.Signature{R: key(5), S: api.Word{most, most, most, most}})
	if s.often(1, 2) {
		s.spoil(&o, keys)
	}
	return o
}

// spoil draws a part or two anew.
func (s *source) spoil(o *api.Op, keys []api.Ed) {
	for range 1 + s.below(2) {
		switch s.below(8) {
		case 0:
			o.Kind = pick(s, api.OpKind(0), 4, -1, math.MaxInt)
		case 1:
			o.From = uint32(s.word())
		case 2:
			o.To = uint32(s.word())
		case 3:
			o.To = o.From
		case 4, 7:
			o.Key = pick(s, pick(s, keys...), pick(s, wrongKeys()...).key)
		case 5:
			o.Nonce = pick(s, o.Nonce+1, o.Nonce-1, 0, most, s.word())
		case 6:
			o.Amount = s.word()
		}
	}
}

// TestReference: the tests' own tree is smt's.
func TestReference(t *testing.T) {
	m := modelOf(3, few())
	m.accounts = rich()
	x, _ := smt.New(3, few())
	for i, a := range m.accounts {
		x.Set(uint64(i), leaf(t, few(), a))
	}
	if x.Root() != m.node(t, 3, 0) {
		t.Error("the root", x.Root())
	}
	for i := range uint32(8) {
		if path, _ := x.Path(uint64(i)); !slices.Equal(path, m.path(t, i)) {
			t.Error("the path", i)
		}
	}
	if (field.Of(5) != api.Fe{5}) {
		t.Error("an element is no number as it stands")
	}
}
