package ledger_test

import (
	"math"
	"math/big"
	"testing"

	"causeway/api"
	"causeway/field"
	"causeway/jubjub"
	"causeway/ledger"
	"causeway/limbs"
)

const (
	most      = 1<<64 - 1
	mostIndex = 1<<32 - 1
)

// source draws numbers by xorshift: the same ones in each run.
type source uint64

func (s *source) word() uint64 {
	x := uint64(*s)
	x ^= x << 13
	x ^= x >> 7
	x ^= x << 17
	*s = source(x)
	return x
}

// below draws a number below n; often tells whether it is so n times in so many.
func (s *source) below(n uint64) uint64 { return s.word() >> 8 % n }

func (s *source) often(n, many uint64) bool { return s.below(many) < n }

// pick draws one of a list.
func pick[A any](s *source, l ...A) A { return l[s.below(uint64(len(l)))] }

// few are the least Rounds that a ledger may have; usual are those of eddsa.
func few() api.Rounds { return api.Rounds{Width: 3, Full: 2} }

func usual() api.Rounds { return api.Rounds{Width: 3, Full: 8, Partial: 57} }

// some are Rounds that a ledger may have: of each Width but 2.
func some() []api.Rounds {
	l := []api.Rounds{usual()}
	for width := 3; width <= api.MaxWidth; width++ {
		l = append(l, api.Rounds{Width: width, Full: 2}, api.Rounds{Width: width, Full: 4, Partial: 1})
	}
	return l
}

// narrow are Rounds that poseidon takes, and no tree.
func narrow() []api.Rounds {
	return []api.Rounds{{Width: 2, Full: 2}, {Width: 2, Full: 8, Partial: 56}, {Width: 2, Full: 64, Partial: 128}}
}

// wrong are Rounds that poseidon refuses.
func wrong() []api.Rounds {
	const least, greatest = math.MinInt, math.MaxInt
	l := []api.Rounds{{}, {Width: 2, Full: 3, Partial: -1}}
	for _, width := range []int{least, -3, 0, 1, 9, 64, greatest} {
		l = append(l, api.Rounds{Width: width, Full: 8, Partial: 57})
	}
	for _, full := range []int{least, -8, 0, 1, 3, 65, 66, greatest} {
		l = append(l, api.Rounds{Width: 3, Full: full, Partial: 57})
	}
	for _, partial := range []int{least, -1, 129, greatest} {
		l = append(l, api.Rounds{Width: 3, Full: 8, Partial: partial})
	}
	return l
}

// wrongDepths are those that no ledger has.
func wrongDepths() []int { return []int{math.MinInt, -33, -32, -1, 0, 33, 34, 64, math.MaxInt} }

// key is so many times the base point.
func key(n uint64) api.Ed {
	p, _ := jubjub.Mul(jubjub.Base(), api.Word{n})
	return p
}

// goodKeys are keys that may be, the neutral point among them.
func goodKeys() []api.Ed { return []api.Ed{jubjub.Neutral(), key(1), key(2), key(77)} }

// minusOne is -1 of Fr.
func minusOne() api.Fe {
	a, _ := field.Neg(api.FieldR, field.Of(1))
	return a
}

// aboveR is an element and r: one that is not below r.
func aboveR(a api.Fe) api.Fe {
	sum, _ := limbs.Add(api.Word(a), field.Modulus(api.FieldR))
	return api.Fe(sum)
}

// wrongKey is a key that may not be, and jubjub.Check's error of it.
type wrongKey struct {
	key api.Ed
	e   api.Errno
}

func wrongKeys() []wrongKey {
	two := api.Ed{Y: minusOne()} // of order 2
	sum, _ := jubjub.Add(two, jubjub.Base())
	base := jubjub.Base()
	return []wrongKey{
		{api.Ed{}, api.ErrCurve},
		{api.Ed{X: field.Of(1), Y: field.Of(1)}, api.ErrCurve},
		{api.Ed{X: base.Y, Y: base.X}, api.ErrCurve},
		{api.Ed{X: aboveR(base.X), Y: base.Y}, api.ErrCurve},
		{api.Ed{X: base.X, Y: aboveR(base.Y)}, api.ErrCurve},
		{api.Ed{Y: aboveR(field.Of(1))}, api.ErrCurve},
		{api.Ed{X: api.Fe{most, most, most, most}, Y: api.Fe{most, most, most, most}}, api.ErrCurve},
		{two, api.ErrPoint},
		{sum, api.ErrPoint},
	}
}

// outside are numbers that no account of a ledger of the depth has; of 32 there are none.
func outside(depth int) []uint32 {
	if depth == api.MaxDepth {
		return nil
	}
	count := uint32(1) << depth
	return []uint32{count, count + 1, 2*count - 1, count | 1<<31, 1 << 31, mostIndex}
}

// ends are an account's numbers at a ledger's ends, and beside its middle.
func ends(depth int) []uint32 {
	last := uint32(1<<depth - 1)
	if depth == 1 {
		return []uint32{0, 1}
	}
	return []uint32{0, 1, last / 2, last/2 + 1, last - 1, last}
}

// all are all accounts' numbers of a small ledger.
func all(depth int) []uint32 {
	var l []uint32
	for i := range uint32(1) << depth {
		l = append(l, i)
	}
	return l
}

// account is one of the n-th key.
func account(n, nonce, balance uint64) api.Account {
	return api.Account{Key: key(n), Nonce: nonce, Balance: balance}
}

// transfer, deposit and withdrawal are operations by accounts' keys.
func transfer(from, to uint32, n, nonce, amount uint64) api.Op {
	return api.Op{Kind: api.OpTransfer, From: from, To: to, Amount: amount, Nonce: nonce, Key: key(n)}
}

func deposit(to uint32, n, amount uint64) api.Op {
	return api.Op{Kind: api.OpDeposit, To: to, Amount: amount, Key: key(n), Forced: true}
}

func withdrawal(from uint32, n, nonce, amount uint64) api.Op {
	return api.Op{Kind: api.OpWithdraw, From: from, Amount: amount, Nonce: nonce, Key: key(n)}
}

// made is a ledger that New made.
func made(t *testing.T, depth int, r api.Rounds) *ledger.Ledger {
	t.Helper()
	x, e := ledger.New(depth, r)
	if e != api.OK || x == nil {
		t.Fatal("New", depth, r, e)
	}
	return x
}

// put is a Put that must go; apply an Apply.
func put(t *testing.T, x *ledger.Ledger, i uint32, a api.Account) {
	t.Helper()
	if e := x.Put(i, a); e != api.OK {
		t.Fatal("Put", i, a, e)
	}
}

func apply(t *testing.T, x *ledger.Ledger, o api.Op) {
	t.Helper()
	if e := x.Apply(o); e != api.OK {
		t.Fatal("Apply", o, e)
	}
}

// number is a word by another program's means.
func number(a api.Word) *big.Int { return new(big.Int).SetBytes(limbs.Bytes(a)) }

// whole is a number of 64 bits likewise.
func whole(n uint64) *big.Int { return new(big.Int).SetUint64(n) }
