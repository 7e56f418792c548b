package ledger

import (
	"math"

	"causeway/api"
	"causeway/jubjub"
)

// rule answers what the accounts that an operation of its kind touches become by it, or why it is refused. It changes nothing.
type rule func(o api.Op) ([]Entry, api.Errno)

// outcome answers by the rule of the operation's kind; ErrMade, ErrKind if there is none.
func (l *Ledger) outcome(o api.Op) ([]Entry, api.Errno) {
	if !l.isMade() {
		return nil, api.ErrMade
	}
	outcome := l.ruleOf(o.Kind)
	if outcome == nil {
		return nil, api.ErrKind
	}
	return outcome(o)
}

// ruleOf answers a kind's rule; nil of what is none.
func (l *Ledger) ruleOf(kind api.OpKind) rule {
	switch kind {
	case api.OpTransfer:
		return l.transfer
	case api.OpDeposit:
		return l.deposit
	case api.OpWithdraw:
		return l.withdraw
	}
	return nil
}

// transfer is the rule of what goes from one account to another.
func (l *Ledger) transfer(o api.Op) ([]Entry, api.Errno) {
	if !l.has(o.From) || !l.has(o.To) {
		return nil, api.ErrIndex
	}
	if o.From == o.To {
		return nil, api.ErrSelf
	}
	from, e := l.payer(o)
	if e != api.OK {
		return nil, e
	}
	to := l.accounts[o.To]
	if isEmpty(to) {
		return nil, api.ErrAccount
	}
	to, e = raised(to, o.Amount)
	if e != api.OK {
		return nil, e
	}
	return []Entry{{o.From, from}, {o.To, to}}, api.OK
}

// deposit is the rule of what comes from outside. An account that is empty becomes the key's.
func (l *Ledger) deposit(o api.Op) ([]Entry, api.Errno) {
	if !l.has(o.To) {
		return nil, api.ErrIndex
	}
	if e := jubjub.Check(o.Key); e != api.OK {
		return nil, e
	}
	to := l.accounts[o.To]
	if !isEmpty(to) && to.Key != o.Key {
		return nil, api.ErrAccount
	}
	to, e := raised(to, o.Amount)
	if e != api.OK {
		return nil, e
	}
	to.Key = o.Key
	return []Entry{{o.To, to}}, api.OK
}

// withdraw is the rule of what goes outside.
func (l *Ledger) withdraw(o api.Op) ([]Entry, api.Errno) {
	if !l.has(o.From) {
		return nil, api.ErrIndex
	}
	from, e := l.payer(o)
	if e != api.OK {
		return nil, e
	}
	return []Entry{{o.From, from}}, api.OK
}

// payer answers From's account behind its payment; ErrAccount if it is empty or another's, ErrNonce of another nonce and of the last one, behind which there is none, ErrBalance if not as much is there.
func (l *Ledger) payer(o api.Op) (api.Account, api.Errno) {
	from := l.accounts[o.From]
	switch {
	case isEmpty(from) || from.Key != o.Key:
		return api.Account{}, api.ErrAccount
	case from.Nonce != o.Nonce || from.Nonce == math.MaxUint64:
		return api.Account{}, api.ErrNonce
	case from.Balance < o.Amount:
		return api.Account{}, api.ErrBalance
	}
	from.Balance -= o.Amount
	from.Nonce++
	return from, api.OK
}

// raised answers an account with so much more; ErrOverflow if it would be above 2^64 - 1.
func raised(a api.Account, amount uint64) (api.Account, api.Errno) {
	if amount > math.MaxUint64-a.Balance {
		return api.Account{}, api.ErrOverflow
	}
	a.Balance += amount
	return a, api.OK
}
