package ledger_test

import (
	"slices"
	"testing"

	"causeway/api"
	"causeway/field"
	"causeway/jubjub"
	"causeway/ledger"
	"causeway/poseidon"
)

// TestExample: the chapter's examples.
func TestExample(t *testing.T) {
	x := made(t, 2, few())
	apply(t, x, deposit(1, 1, 5))
	if x.Total() != (api.Word{5}) {
		t.Error("Total", x.Total())
	}
	if e := x.Apply(transfer(1, 2, 1, 0, 3)); e != api.ErrAccount {
		t.Error("a transfer to an empty account", e)
	}
	apply(t, x, deposit(2, 2, 0))
	apply(t, x, transfer(1, 2, 1, 0, 3))
	want := []ledger.Entry{{Index: 1, Account: account(1, 1, 2)}, {Index: 2, Account: account(2, 0, 3)}}
	if l := x.Entries(); !slices.Equal(l, want) {
		t.Error("Entries", l)
	}
	void := transfer(1, 2, 1, 1, 1)
	void.Void = true
	if e := x.Apply(void); e != api.ErrArg {
		t.Error("a transfer with Void that Refuses takes", e)
	}
}

// TestNew: P14.1, P14.3, empty accounts, of each depth and by each Rounds.
func TestNew(t *testing.T) {
	for depth := 1; depth <= api.MaxDepth; depth++ {
		mustBe(t, "New", made(t, depth, few()), modelOf(depth, few()), ends(depth)...)
	}
	for _, r := range append(some(), api.Rounds{Width: 8, Full: 64, Partial: 128}) {
		mustBe(t, "New", made(t, 2, r), modelOf(2, r), all(2)...)
	}
}

// TestCheck: P14.1, an account may be if it is empty, or if its key may be, whatever else it has.
func TestCheck(t *testing.T) {
	numbers := []uint64{0, 1, most}
	for _, nonce := range numbers {
		for _, balance := range numbers {
			for _, k := range goodKeys() {
				if e := ledger.Check(api.Account{Key: k, Nonce: nonce, Balance: balance}); e != api.OK {
					t.Error("Check", k, nonce, balance, e)
				}
			}
			for _, w := range wrongKeys() {
				a, want := api.Account{Key: w.key, Nonce: nonce, Balance: balance}, w.e
				if a == (api.Account{}) {
					want = api.OK
				}
				if e := ledger.Check(a); e != want {
					t.Error("Check", a, e, "and not", want)
				}
			}
		}
	}
}

// TestLeaf: P14.1, 0 of the empty account, else the hash of its four numbers, by each Rounds that poseidon takes.
func TestLeaf(t *testing.T) {
	accounts := []api.Account{{}, {Key: jubjub.Neutral()}, account(1, 0, 0), account(1, 1, 0), account(1, 0, 1), account(2, most, most), {Key: jubjub.Neutral(), Nonce: 1 << 63, Balance: 1 << 32}}
	for _, r := range append(some(), narrow()...) {
		seen := map[api.Fe]int{}
		for _, a := range accounts {
			got, e := ledger.Leaf(r, a)
			if got != leaf(t, r, a) || e != api.OK {
				t.Error("Leaf", r, a, got, e)
			}
			seen[got]++
		}
		if len(seen) != len(accounts) {
			t.Error("unlike accounts have one leaf", r, seen)
		}
	}
}

// TestLeafByHand: P14.1, the sponge of an account, absorbed two by two.
func TestLeafByHand(t *testing.T) {
	a := account(3, 8, most)
	state, _ := poseidon.Permute(usual(), []api.Fe{{4}, a.Key.X, a.Key.Y})
	state[1], _ = field.Add(api.FieldR, state[1], api.Fe{8})
	state[2], _ = field.Add(api.FieldR, state[2], api.Fe{most})
	want, _ := poseidon.Permute(usual(), state)
	if got, e := ledger.Leaf(usual(), a); got != want[1] || e != api.OK {
		t.Error("Leaf", got, e, "and not", want[1])
	}
}

// TestPut: P14.1, all that a small ledger tells, behind each Put of a drawn history: accounts are made other ones, empty again, and what they are.
func TestPut(t *testing.T) {
	s := source(141)
	for depth := 1; depth <= 4; depth++ {
		for _, r := range []api.Rounds{few(), {Width: 4, Full: 2, Partial: 1}} {
			x, m := made(t, depth, r), modelOf(depth, r)
			for range 10 {
				i := uint32(s.below(1 << depth))
				a := pick(&s, api.Account{}, account(s.below(5)+1, s.below(3), s.word()), api.Account{Key: jubjub.Neutral()})
				for range 1 + s.below(2) {
					put(t, x, i, a)
				}
				m.accounts[i] = a
				mustBe(t, "Put", x, m, all(depth)...)
			}
			for _, i := range all(depth) {
				put(t, x, i, api.Account{})
			}
			mustBe(t, "all empty again", x, modelOf(depth, r), all(depth)...)
		}
	}
}

// TestDeep: P14.1, P14.2, P14.3, of the accounts at a ledger's ends, at each depth.
func TestDeep(t *testing.T) {
	for _, depth := range []int{1, 2, 15, 16, 17, 30, 31, 32} {
		x, m := made(t, depth, few()), modelOf(depth, few())
		l := ends(depth)
		last := l[len(l)-1]
		put(t, x, 0, account(1, 0, 9))
		m.accounts[0] = account(1, 0, 9)
		for _, o := range []api.Op{deposit(last, 2, 3), transfer(0, last, 1, 0, 4), transfer(last, 0, 2, 0, 2), withdrawal(last, 2, 1, 5), deposit(last/2, 1, 0)} {
			want := m.apply(o)
			if e := x.Apply(o); e != want {
				t.Error("Apply", depth, o, e, "and not", want)
			}
			mustTell(t, "a deep ledger", x, m, l...)
		}
		mustBe(t, "a deep ledger", x, m, l...)
	}
}

// TestUsual: P14.1, P14.4, by the Rounds of other layers.
func TestUsual(t *testing.T) {
	x, m := start(t, 3, usual(), rich())
	for _, o := range []api.Op{transfer(0, 5, 1, 0, 10), deposit(7, 9, most), withdrawal(1, 2, 7, most)} {
		if e, want := x.Apply(o), m.apply(o); e != want || e != api.OK {
			t.Error("Apply", o, e)
		}
	}
	mustBe(t, "usual Rounds", x, m, all(3)...)
}

// TestEntries: P14.3, they rise by index, however they came; a sum of balances that is above 2^64 is told.
func TestEntries(t *testing.T) {
	s := source(142)
	x, m := made(t, 32, few()), modelOf(32, few())
	for n := range uint64(60) {
		i := uint32(s.word() >> (s.word() % 32))
		a := account(1, n, pick[uint64](&s, most, most-n, n))
		if n%7 == 6 {
			i, a = m.entries()[s.below(uint64(len(m.entries())))].Index, api.Account{}
		}
		put(t, x, i, a)
		m.accounts[i] = a
		mustTell(t, "Entries", x, m, i, i^1)
	}
	if len(x.Entries()) < 40 || x.Total()[1] == 0 || x.Total()[2] != 0 {
		t.Error("too little was tried", len(x.Entries()), x.Total())
	}
}
