package jubjub_test

import (
	"bytes"
	"math/big"
	"slices"
	"sync"
	"testing"

	"causeway/api"
	"causeway/jubjub"
)

// sure takes an answer that may have no error.
func sure(t *testing.T) func(p api.Ed, e api.Errno) api.Ed {
	return func(p api.Ed, e api.Errno) api.Ed {
		t.Helper()
		if e != api.OK {
			t.Fatal("an error", e)
		}
		return p
	}
}

// TestGroup: P11.4, sums are On, commutative and associative; there is a neutral one, and an opposite of each.
func TestGroup(t *testing.T) {
	ok := sure(t)
	l := onCurve(301)
	s := source(302)
	pick := func() api.Ed { return l[s.word()%uint64(len(l))].ed() }
	for range 200 {
		p, q, r := pick(), pick(), pick()
		sum := ok(jubjub.Add(p, q))
		if !jubjub.On(sum) || sum != ok(jubjub.Add(q, p)) {
			t.Error("a sum", p, q, sum)
		}
		if ok(jubjub.Add(sum, r)) != ok(jubjub.Add(p, ok(jubjub.Add(q, r)))) {
			t.Error("a sum of three", p, q, r)
		}
		minus := ok(jubjub.Neg(p))
		if ok(jubjub.Add(p, jubjub.Neutral())) != p || ok(jubjub.Add(p, minus)) != jubjub.Neutral() || !jubjub.On(minus) {
			t.Error("neutral", p, minus)
		}
		if ok(jubjub.Neg(minus)) != p || ok(jubjub.Add(sum, ok(jubjub.Neg(q)))) != p {
			t.Error("opposites", p, q)
		}
	}
}

// TestMultiples: P11.4, Mul by two numbers is Mul by their sum, one behind the other Mul by their product; and Mul of a sum is the sum of both.
func TestMultiples(t *testing.T) {
	ok := sure(t)
	l := onCurve(303)
	s := source(304)
	for range 60 {
		p, q := l[s.word()%uint64(len(l))].ed(), l[s.word()%uint64(len(l))].ed()
		n, m := s.number(), s.number()
		n.Rsh(n, 1)
		m.Rsh(m, 1)
		by := func(p api.Ed, n *big.Int) api.Ed { return ok(jubjub.Mul(p, word(n))) }
		if by(p, new(big.Int).Add(n, m)) != ok(jubjub.Add(by(p, n), by(p, m))) {
			t.Error("by a sum", p, n, m)
		}
		n.Rsh(n, 127)
		m.Rsh(m, 127)
		if by(p, new(big.Int).Mul(n, m)) != by(by(p, n), m) {
			t.Error("by a product", p, n, m)
		}
		if by(ok(jubjub.Add(p, q)), n) != ok(jubjub.Add(by(p, n), by(q, n))) {
			t.Error("of a sum", p, q, n)
		}
	}
}

// TestOrders: P11.4, by the order the base point and all of the group, and no other of the curve, come to the neutral point; by 8 l each of the curve.
func TestOrders(t *testing.T) {
	ok := sure(t)
	if ok(jubjub.Mul(jubjub.Base(), jubjub.Order())) != jubjub.Neutral() {
		t.Error("the base point's order")
	}
	all := word(new(big.Int).Mul(order(), whole(cofactor)))
	for _, p := range onCurve(305) {
		if ok(jubjub.Mul(p.ed(), all)) != jubjub.Neutral() {
			t.Error("the curve's order", p)
		}
		isIn := ok(jubjub.Mul(p.ed(), jubjub.Order())) == jubjub.Neutral()
		if isIn != (jubjub.Check(p.ed()) == api.OK) {
			t.Error("the group", p, isIn)
		}
	}
	// Of each order that divides 8 as many as a cyclic group has.
	orders := map[int]int{}
	for _, p := range small() {
		sum, n := p.ed(), 1
		for ; sum != jubjub.Neutral() && n <= cofactor; n++ {
			sum = ok(jubjub.Add(sum, p.ed()))
		}
		orders[n]++
	}
	if orders[1] != 1 || orders[2] != 1 || orders[4] != 2 || orders[8] != 4 {
		t.Error("the small points' orders", orders)
	}
}

// TestReadOfBytes: P11.5, Read of Bytes is the point; the opposite has one bit more, or less.
func TestReadOfBytes(t *testing.T) {
	ok := sure(t)
	for _, p := range good(306) {
		b, e := jubjub.Bytes(p.ed())
		if e != api.OK || len(b) != size || ok(jubjub.Read(b)) != p.ed() {
			t.Error("Read of Bytes", p, b, e)
		}
		if p.is(neutral()) {
			continue
		}
		b[31] ^= 128
		if ok(jubjub.Read(b)) != ok(jubjub.Neg(p.ed())) {
			t.Error("Read of the other bit", p, b)
		}
	}
}

// TestBytesOfRead: P11.5, what Read takes is Bytes of it; looked at are all bytes that differ by a bit from those of a point.
func TestBytesOfRead(t *testing.T) {
	taken := 0
	for _, p := range []spot{neutral(), base(), base().times(whole(2)), base().times(whole(5)).negative()} {
		b := p.bytes()
		for bit := range 8 * size {
			b[bit/8] ^= 0x80 >> (bit % 8)
			q, e := jubjub.Read(b)
			if e == api.OK {
				taken++
				if again, e := jubjub.Bytes(q); e != api.OK || !bytes.Equal(again, b) {
					t.Error("Bytes of Read", b, q, again, e)
				}
			} else if q != (api.Ed{}) {
				t.Error("Read", b, q, e)
			}
			b[bit/8] ^= 0x80 >> (bit % 8)
		}
	}
	if taken < 20 {
		t.Error("too few of the bytes are taken", taken)
	}
}

// TestMemory: P11.6, P2 of DOC.md: bytes that are handed in stay, with what lies behind them; an answer that is written over, to its last place, changes no other one and no call's next.
func TestMemory(t *testing.T) {
	long := append(base().bytes(), neutral().bytes()...)
	old := slices.Clone(long)
	for _, from := range []int{0, 16, 32} {
		for to := from; to <= len(long); to++ {
			jubjub.Read(long[from:to])
			if !bytes.Equal(long, old) {
				t.Fatal("Read changes its bytes", from, to)
			}
		}
	}
	p, _ := jubjub.Read(long[:32])
	clear(long)
	if p != jubjub.Base() {
		t.Error("Read keeps its bytes", p)
	}
	first, _ := jubjub.Bytes(p)
	second, _ := jubjub.Bytes(p)
	for i := range first[:cap(first)] {
		first[:cap(first)][i] = 0xa5
	}
	third, _ := jubjub.Bytes(p)
	if !bytes.Equal(second, base().bytes()) || !bytes.Equal(third, second) {
		t.Error("Bytes", second, third)
	}
	if &second[0] == &third[0] {
		t.Error("two answers are one")
	}
}

// TestWhateverIsGiven: P1 and P4 of DOC.md, there is an answer to all points, numbers and bytes, and beside an error nothing.
func TestWhateverIsGiven(t *testing.T) {
	s := source(307)
	var none api.Ed
	l := offCurve()
	for range 60 {
		p := api.Ed{X: element(s.number()), Y: element(s.number())}
		q := l[s.word()%uint64(len(l))]
		n := word(s.number())
		on := jubjub.On(p)
		if x := spotOf(p); on != (x.solves() && x.x.Cmp(modulus()) < 0 && x.y.Cmp(modulus()) < 0) {
			t.Error("On", p)
		}
		for _, call := range []func() (api.Ed, api.Errno){
			func() (api.Ed, api.Errno) { return jubjub.Add(p, q) },
			func() (api.Ed, api.Errno) { return jubjub.Add(q, p) },
			func() (api.Ed, api.Errno) { return jubjub.Mul(q, n) },
		} {
			if got, e := call(); got != none || e != api.ErrCurve {
				t.Error("an answer beside an error", p, q, got, e)
			}
		}
		b := s.number().FillBytes(make([]byte, size))
		mustRead(t, b)
		b[31] %= 0x30
		mustRead(t, b)
	}
}

// TestNothingElse: P3 of DOC.md, calls side by side answer what they answer alone.
func TestNothingElse(t *testing.T) {
	l := good(308)
	var group sync.WaitGroup
	for i := range 8 {
		group.Go(func() {
			for n := range 6 {
				p := l[(i+n)%len(l)]
				got, e := jubjub.Mul(p.ed(), api.Word{uint64(n), 1})
				factor := new(big.Int).Add(new(big.Int).Lsh(whole(1), 64), whole(int64(n)))
				mustBe(t, "Mul", got, e, p.times(factor))
				b, e := jubjub.Bytes(p.ed())
				if e != api.OK || !bytes.Equal(b, p.bytes()) {
					t.Error("Bytes", p, b, e)
				}
				got, e = jubjub.Read(b)
				mustBe(t, "Read", got, e, p)
			}
		})
	}
	group.Wait()
}
