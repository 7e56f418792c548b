package eddsa_test

import (
	"bytes"
	"math/big"
	"slices"
	"sync"
	"testing"

	"causeway/api"
	"causeway/eddsa"
	"causeway/jubjub"
)

// product2 is a product of numbers of any size.
func product2(a, b *big.Int) *big.Int { return new(big.Int).Mul(a, b) }

// signedBy is a key by Public, and a message's signature by Sign.
func signedBy(t *testing.T, secret api.Word, message []byte) (api.Ed, api.Signature) {
	t.Helper()
	key, e := eddsa.Public(secret)
	s, wrong := eddsa.Sign(secret, message)
	if e != api.OK || wrong != api.OK {
		t.Fatal("Public, Sign", secret, e, wrong)
	}
	return key, s
}

// TestSigned: P12.4, Verify takes what Sign answers, and Check, Challenge and Bytes do.
func TestSigned(t *testing.T) {
	s := source(301)
	for range 40 {
		message := s.bytes(int(s.word() % 200))
		key, signed := signedBy(t, word(s.below()), message)
		if e := eddsa.Verify(key, message, signed); e != api.OK {
			t.Error("Verify", key, message, signed, e)
		}
		if e := eddsa.Check(signed); e != api.OK {
			t.Error("Check", signed, e)
		}
		// The equation by the faces of the layer below.
		h, e := eddsa.Challenge(signed.R, key, message)
		left, _ := jubjub.Mul(jubjub.Base(), signed.S)
		right, _ := jubjub.Mul(key, h)
		right, _ = jubjub.Add(signed.R, right)
		if e != api.OK || left != right {
			t.Error("the equation", key, message, signed, e)
		}
	}
}

// TestOneS: P12.5, of a key, a message and an R one S is taken: none beside it, none of those that are it modulo l.
func TestOneS(t *testing.T) {
	message := []byte("one")
	key, signed := signedBy(t, api.Word{1 << 40, 3}, message)
	s := source(302)
	for i := int64(-20); i <= 20; i++ {
		for _, n := range []*big.Int{sum(number(signed.S), whole(i)), sum(s.number(), whole(i)), new(big.Int).Rsh(s.number(), 6)} {
			if n.Sign() < 0 || n.BitLen() > 256 {
				continue
			}
			want := api.ErrSignature
			switch {
			case n.Cmp(order()) >= 0:
				want = api.ErrRange
			case word(n) == signed.S:
				want = api.OK
			}
			if e := eddsa.Verify(key, message, api.Signature{R: signed.R, S: word(n)}); e != want {
				t.Error("Verify", n, e, "and not", want)
			}
		}
	}
	for n := sum(number(signed.S), order()); n.BitLen() <= 256; n.Add(n, order()) {
		if e := eddsa.Verify(key, message, api.Signature{R: signed.R, S: word(n)}); e != api.ErrRange {
			t.Error("Verify of S and more", n, e)
		}
	}
}

// TestNeutralKey: P12.6, by the neutral key a signature of one message is one of every other; and R is then S B.
func TestNeutralKey(t *testing.T) {
	for _, n := range belowOrder() {
		r, _ := jubjub.Mul(jubjub.Base(), n)
		for _, message := range [][]byte{nil, []byte("a"), make([]byte, longest)} {
			if e := eddsa.Verify(jubjub.Neutral(), message, api.Signature{R: r, S: n}); e != api.OK {
				t.Error("Verify by the neutral key", n, len(message), e)
			}
			other, _ := jubjub.Add(r, jubjub.Base())
			if e := eddsa.Verify(jubjub.Neutral(), message, api.Signature{R: other, S: n}); e != api.ErrSignature {
				t.Error("Verify by the neutral key, of another R", n, len(message), e)
			}
		}
	}
}

// TestTwoMessages: P12.6, by a key that is not neutral a signature of one message is one of another just if both have one h.
func TestTwoMessages(t *testing.T) {
	l := messages(303)
	s := source(304)
	for i, message := range l[1:] {
		key, signed := signedBy(t, word(s.below()), message)
		h, _ := eddsa.Challenge(signed.R, key, message)
		for _, other := range [][]byte{l[i], l[(i+5)%len(l)], message, s.bytes(len(message) % 40)} {
			again, _ := eddsa.Challenge(signed.R, key, other)
			want := api.ErrSignature
			if again == h {
				want = api.OK
			}
			if (want == api.OK) != bytes.Equal(other, message) {
				t.Error("one h of two messages", i)
			}
			if e := eddsa.Verify(key, other, signed); e != want {
				t.Error("Verify", i, e, "and not", want)
			}
		}
	}
}

// TestReadOfBytes: P12.7, Read of Bytes is the signature.
func TestReadOfBytes(t *testing.T) {
	s := source(305)
	for range 40 {
		_, signed := signedBy(t, word(s.below()), s.bytes(9))
		b, e := eddsa.Bytes(signed)
		if e != api.OK || len(b) != 64 {
			t.Error("Bytes", signed, b, e)
		}
		mustBe(t, "Read of Bytes", signed)(eddsa.Read(b))
	}
}

// TestBytesOfRead: P12.7, what Read takes is Bytes of it; looked at are all bytes that differ by a bit from a signature's.
func TestBytesOfRead(t *testing.T) {
	_, signed := signedBy(t, api.Word{6}, []byte("bits"))
	b, _ := eddsa.Bytes(signed)
	taken := 0
	for bit := range 8 * len(b) {
		b[bit/8] ^= 0x80 >> (bit % 8)
		other, e := eddsa.Read(b)
		if e == api.OK {
			taken++
			if again, e := eddsa.Bytes(other); other == signed || e != api.OK || !bytes.Equal(again, b) {
				t.Error("Bytes of Read", bit, other, e)
			}
		} else if other != (api.Signature{}) {
			t.Error("beside an error", bit, other, e)
		}
		b[bit/8] ^= 0x80 >> (bit % 8)
	}
	if taken < 240 {
		t.Error("too few of the bytes are taken", taken)
	}
}

// TestArgumentsStay: P12.8 (P2 of DOC.md), messages, lists and bytes that are handed in stay, with what lies behind them.
func TestArgumentsStay(t *testing.T) {
	keys, messages, l := many(4)
	messages[2] = nil
	long := slices.Concat(bytesOf(base(), api.Word{3}), bytes.Repeat([]byte{7}, 100))
	messages[3] = long[10:50]
	oldKeys, oldMessages, oldL, old := slices.Clone(keys), make([][]byte, 4), slices.Clone(l), slices.Clone(long)
	for i, m := range messages {
		oldMessages[i] = slices.Clone(m)
	}
	eddsa.VerifyAll(keys, messages, l)
	eddsa.VerifyAll(keys[:2], messages[:2], l[:2])
	for _, n := range []int{0, 5, 31, 32, 64} {
		eddsa.Sign(api.Word{8}, long[:n])
		eddsa.Verify(keys[0], long[:n], l[0])
		eddsa.Challenge(keys[0], keys[1], long[:n])
		eddsa.Read(long[:n])
	}
	if !slices.Equal(keys, oldKeys) || !slices.Equal(l, oldL) || !bytes.Equal(long, old) || !slices.EqualFunc(messages, oldMessages, bytes.Equal) {
		t.Error("an argument is another")
	}
	if messages[2] != nil || &messages[3][0] != &long[10] {
		t.Error("a message is another")
	}
}

// TestNothingKept: P12.8 (P2 of DOC.md), bytes that are written over change no answer that was given, nor the next one.
func TestNothingKept(t *testing.T) {
	message := []byte("a message that is written over")
	_, want := signedBy(t, api.Word{8}, slices.Clone(message))
	_, signed := signedBy(t, api.Word{8}, message)
	b, _ := eddsa.Bytes(signed)
	second, _ := eddsa.Bytes(signed)
	read, _ := eddsa.Read(b)
	clear(message)
	for i := range b[:cap(b)] {
		b[:cap(b)][i] = 0xa5
	}
	third, _ := eddsa.Bytes(signed)
	if signed != want || read != want || !bytes.Equal(second, third) || &second[0] == &third[0] {
		t.Error("an answer changed", signed, read, second, third)
	}
	mustBe(t, "Read", want)(eddsa.Read(third))
	mustBe(t, "Sign", want)(eddsa.Sign(api.Word{8}, []byte("a message that is written over")))
}

// TestWhateverIsGiven: P1 and P4 of DOC.md, there is an answer to all points, numbers and bytes, and beside an error nothing.
func TestWhateverIsGiven(t *testing.T) {
	s := source(306)
	for range 60 {
		p := api.Ed{X: element(s.number()), Y: element(s.number())}
		n := word(s.number())
		signed := api.Signature{R: p, S: n}
		message := s.bytes(int(s.word() % 5000))
		mustRefuse[api.Word](t, "Challenge", api.ErrCurve)(eddsa.Challenge(p, p, message))
		if eddsa.Check(signed) != api.ErrCurve || eddsa.Verify(p, message, signed) != api.ErrCurve || eddsa.Verify(jubjub.Base(), message, signed) != api.ErrCurve {
			t.Error("a point that is not On", p)
		}
		if b, e := eddsa.Bytes(signed); len(b) != 0 || e != api.ErrCurve {
			t.Error("Bytes", b, e)
		}
		if signed, e := eddsa.Sign(n, message); e != api.OK && signed != (api.Signature{}) {
			t.Error("Sign", n, len(message), e)
		}
		if signed, e := eddsa.Read(s.bytes(64)); e != api.OK && signed != (api.Signature{}) {
			t.Error("Read", signed, e)
		}
	}
	mustVerify(t, make([]api.Ed, 1), make([][]byte, 1), make([]api.Signature, 1), api.ErrCurve, 0)
}

// TestNothingElse: P3 of DOC.md, calls side by side answer what they answer alone.
func TestNothingElse(t *testing.T) {
	keys, messages, l := many(8)
	var group sync.WaitGroup
	for i := range l {
		group.Go(func() {
			for range 4 {
				mustBe(t, "Public", keys[i])(eddsa.Public(api.Word{uint64(i%5 + 1)}))
				mustBe(t, "Sign", l[i])(eddsa.Sign(api.Word{uint64(i%5 + 1)}, messages[i]))
				mustVerify(t, keys, messages, l, api.OK, len(l))
				b, _ := eddsa.Bytes(l[i])
				mustBe(t, "Read", l[i])(eddsa.Read(b))
			}
		})
	}
	group.Wait()
}
