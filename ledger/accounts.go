package ledger

import (
	"causeway/api"
	"causeway/field"
	"causeway/poseidon"
)

// isEmpty: is all of the account 0?
func isEmpty(a api.Account) bool { return a == api.Account{} }

// leafOf answers the leaf of an account that may be, by Rounds that may be, so that nothing is refused.
func leafOf(r api.Rounds, a api.Account) api.Fe {
	if isEmpty(a) {
		return api.Fe{}
	}
	leaf, _ := poseidon.Hash(r, []api.Fe{a.Key.X, a.Key.Y, field.Of(a.Nonce), field.Of(a.Balance)})
	return leaf
}

// isMade: did a New make it?
func (l *Ledger) isMade() bool { return l != nil && l.tree != nil }

// has: is there the i-th account?
func (l *Ledger) has(i uint32) bool { return i>>l.depth == 0 }

// refusesIndex answers why there is no i-th account: ErrMade, ErrIndex.
func (l *Ledger) refusesIndex(i uint32) api.Errno {
	if !l.isMade() {
		return api.ErrMade
	}
	if !l.has(i) {
		return api.ErrIndex
	}
	return api.OK
}

// keep lets an account that there is be a; a may be, so that the tree takes its leaf.
func (l *Ledger) keep(i uint32, a api.Account) {
	if isEmpty(a) {
		delete(l.accounts, i)
	} else {
		l.accounts[i] = a
	}
	l.tree.Set(uint64(i), leafOf(l.rounds, a))
}
