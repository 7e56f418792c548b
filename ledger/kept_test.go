package ledger

import (
	"testing"

	"causeway/api"
	"causeway/jubjub"
)

// mustKeep tells whether a ledger keeps so many accounts, and none that is empty.
func mustKeep(t *testing.T, x *Ledger, want int) {
	t.Helper()
	if len(x.accounts) != want || len(x.tree.Used()) != want {
		t.Error("so many are kept", len(x.accounts), len(x.tree.Used()), want)
	}
	for i, a := range x.accounts {
		if isEmpty(a) {
			t.Error("an empty one is kept", i)
		}
	}
}

// TestKept: kept are the accounts that are not empty, and no others: of what is asked, refused, void or made empty again none.
func TestKept(t *testing.T) {
	x, _ := New(4, api.Rounds{Width: 3, Full: 2})
	some := api.Account{Key: jubjub.Base(), Balance: 5}
	mustKeep(t, x, 0)
	x.Put(3, api.Account{})
	x.Get(4)
	x.Path(5)
	x.Put(6, api.Account{Nonce: 1})
	x.Put(16, some)
	x.Apply(api.Op{Kind: api.OpTransfer, From: 7, To: 8})
	x.Apply(api.Op{Kind: api.OpTransfer, From: 7, To: 8, Void: true})
	mustKeep(t, x, 0)
	x.Put(3, some)
	x.Put(3, some)
	x.Apply(api.Op{Kind: api.OpTransfer, From: 3, To: 8, Key: some.Key})
	mustKeep(t, x, 1)
	y := x.Copy()
	x.Put(3, api.Account{})
	mustKeep(t, x, 0)
	mustKeep(t, y, 1)
	y.Apply(api.Op{Kind: api.OpWithdraw, From: 3, Amount: 5, Key: some.Key})
	y.Batch([]api.Op{{Kind: api.OpDeposit, To: 9, Key: some.Key}, {Kind: api.OpDeposit, To: 10, Key: some.Key}})
	y.Batch([]api.Op{{Kind: api.OpDeposit, To: 11, Key: some.Key}, {}})
	mustKeep(t, y, 3)
}
