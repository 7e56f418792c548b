package ledger_test

import (
	"testing"

	"causeway/api"
	"causeway/ledger"
	"causeway/poseidon"
)

// TestNewRefused: P14.1 and P4 of DOC.md, ErrDepth, ahead of ErrRounds; beside an error nothing.
func TestNewRefused(t *testing.T) {
	refused := func(depth int, r api.Rounds, want api.Errno) {
		t.Helper()
		if x, e := ledger.New(depth, r); x != nil || e != want {
			t.Error("New", depth, r, x, e, "and not", want)
		}
	}
	for _, r := range append(wrong(), narrow()...) {
		for _, depth := range []int{1, 2, 31, 32} {
			refused(depth, r, api.ErrRounds)
		}
		for _, depth := range wrongDepths() {
			refused(depth, r, api.ErrDepth)
		}
	}
	for _, depth := range wrongDepths() {
		for _, r := range some() {
			refused(depth, r, api.ErrDepth)
		}
	}
}

// TestLeafRefused: P14.1 and P4 of DOC.md, poseidon.Check's error of the Rounds, ahead of Check's of the account; of an empty one too.
func TestLeafRefused(t *testing.T) {
	refused := func(r api.Rounds, a api.Account, want api.Errno) {
		t.Helper()
		if leaf, e := ledger.Leaf(r, a); leaf != (api.Fe{}) || e != want {
			t.Error("Leaf", r, a, leaf, e, "and not", want)
		}
	}
	for _, r := range wrong() {
		if poseidon.Check(r) != api.ErrRounds {
			t.Error("poseidon's Check takes the test's wrong Rounds", r)
		}
		refused(r, api.Account{}, api.ErrRounds)
		refused(r, account(1, 2, 3), api.ErrRounds)
		refused(r, api.Account{Key: wrongKeys()[7].key}, api.ErrRounds)
	}
	for _, r := range append(some(), narrow()...) {
		for _, w := range wrongKeys() {
			refused(r, api.Account{Key: w.key, Nonce: 1}, w.e)
			refused(r, api.Account{Key: w.key, Balance: most}, w.e)
		}
	}
}

// TestNotMade: P14.1, P14.2, P14.3, of a ledger that no New made ErrMade, ahead of all else; 0, none.
func TestNotMade(t *testing.T) {
	refused, _ := ledger.New(0, few())
	var none api.Account
	for _, x := range []*ledger.Ledger{nil, {}, new(ledger.Ledger), refused, (&ledger.Ledger{}).Copy()} {
		for _, i := range []uint32{0, 1, 2, 1 << 31, mostIndex} {
			if a, e := x.Get(i); a != none || e != api.ErrMade {
				t.Error("Get", i, a, e)
			}
			if path, e := x.Path(i); len(path) != 0 || e != api.ErrMade {
				t.Error("Path", i, path, e)
			}
			for _, a := range []api.Account{none, account(1, 0, 1), {Key: wrongKeys()[7].key}, {Nonce: 1}} {
				if e := x.Put(i, a); e != api.ErrMade {
					t.Error("Put", i, a, e)
				}
			}
		}
		for _, c := range append(cases(), several()...) {
			void := c.o
			void.Void = true
			if e, e2, e3 := x.Refuses(c.o), x.Apply(c.o), x.Apply(void); e != api.ErrMade || e2 != api.ErrMade || e3 != api.ErrMade {
				t.Error("Refuses and Apply", c.what, e, e2, e3)
			}
		}
		if x.Root() != (api.Fe{}) || len(x.Entries()) != 0 || x.Total() != (api.Word{}) || x.Copy() != nil || x.Depth() != 0 || x.Rounds() != (api.Rounds{}) {
			t.Error("what it tells", x.Root(), x.Entries(), x.Total(), x.Copy(), x.Depth(), x.Rounds())
		}
	}
}

// TestIndexRefused: P14.1, P14.3 and P4 of DOC.md, ErrIndex of an account that there is not, of each depth, ahead of Check's error; nothing is changed. Of 32 there are all.
func TestIndexRefused(t *testing.T) {
	for depth := 1; depth <= api.MaxDepth; depth++ {
		l := ends(depth)
		last := l[len(l)-1]
		x, m := start(t, depth, few(), map[uint32]api.Account{0: account(1, 0, 4), last: account(2, 0, 5)})
		for _, i := range outside(depth) {
			if a, e := x.Get(i); a != (api.Account{}) || e != api.ErrIndex {
				t.Error("Get", depth, i, a, e)
			}
			if path, e := x.Path(i); len(path) != 0 || e != api.ErrIndex {
				t.Error("Path", depth, i, path, e)
			}
			for _, a := range []api.Account{{}, account(1, 0, 1), {Key: wrongKeys()[7].key}, {Nonce: 1}} {
				if e := x.Put(i, a); e != api.ErrIndex {
					t.Error("Put", depth, i, a, e)
				}
			}
			for _, o := range []api.Op{deposit(i, 1, 1), transfer(i, 0, 1, 0, 0), transfer(0, i, 1, 0, 0), withdrawal(i, 1, 0, 0)} {
				if e := x.Apply(o); e != api.ErrIndex {
					t.Error("Apply", depth, o, e)
				}
			}
		}
		mustTell(t, "refused indices", x, m, l...)
	}
}

// TestPutRefused: P14.1, Check's error of what the account is to be, and it stays.
func TestPutRefused(t *testing.T) {
	x, m := start(t, 3, few(), rich())
	for _, w := range wrongKeys() {
		for _, i := range all(3) {
			for _, a := range []api.Account{{Key: w.key, Nonce: 1}, {Key: w.key, Balance: 1}, {Key: w.key, Nonce: most, Balance: most}} {
				if e := x.Put(i, a); e != w.e {
					t.Error("Put", i, a, e, "and not", w.e)
				}
			}
			if w.key != (api.Ed{}) {
				if e := x.Put(i, api.Account{Key: w.key}); e != w.e {
					t.Error("Put", i, w.key, e, "and not", w.e)
				}
			}
		}
	}
	mustBe(t, "refused accounts", x, m, all(3)...)
}
