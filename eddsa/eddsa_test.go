package eddsa_test

import (
	"bytes"
	"math/big"
	"slices"
	"testing"

	"causeway/api"
	"causeway/eddsa"
	"causeway/jubjub"
)

// TestExamples: the chapter's examples.
func TestExamples(t *testing.T) {
	mustBe(t, "Public(1)", jubjub.Base())(eddsa.Public(api.Word{1}))
	mustRefuse[api.Ed](t, "Public(0)", api.ErrKey)(eddsa.Public(api.Word{}))
	key, _ := eddsa.Public(api.Word{5})
	s, e := eddsa.Sign(api.Word{5}, []byte("a"))
	if e != api.OK || eddsa.Verify(key, []byte("a"), s) != api.OK {
		t.Error("Sign(5, a)", s, e)
	}
	if e := eddsa.Verify(key, []byte("b"), s); e != api.ErrSignature {
		t.Error("Verify with b", e)
	}
	s.S = word(sum(number(s.S), order()))
	if e := eddsa.Verify(key, []byte("a"), s); e != api.ErrRange {
		t.Error("Verify with S + l", e)
	}
}

// TestPublic: P12.1, a secret times the base point.
func TestPublic(t *testing.T) {
	for _, n := range secrets(101) {
		mustBe(t, "Public", base().times(n).ed())(eddsa.Public(word(n)))
	}
}

// TestSign: P12.1, R and S of all messages and all secrets.
func TestSign(t *testing.T) {
	key := base().times(whole(5))
	for _, message := range messages(102) {
		mustBe(t, "Sign", sign(whole(5), key, message))(eddsa.Sign(api.Word{5}, message))
	}
	s := source(103)
	for _, n := range secrets(104) {
		for _, message := range [][]byte{nil, s.bytes(40)} {
			mustBe(t, "Sign", sign(n, base().times(n), message))(eddsa.Sign(word(n), message))
		}
	}
}

// TestNothingIsOne: P1 of DOC.md, nil and empty messages are one, and no others are.
func TestNothingIsOne(t *testing.T) {
	none, _ := eddsa.Sign(api.Word{7}, nil)
	mustBe(t, "Sign of an empty message", none)(eddsa.Sign(api.Word{7}, []byte{}))
	signed := map[api.Signature]int{}
	for i, message := range messages(105)[1:] {
		s, _ := eddsa.Sign(api.Word{7}, message)
		if other, is := signed[s]; is {
			t.Error("one signature of two messages", i, other)
		}
		signed[s] = i
	}
}

// points are of the group: the neutral one, the base point, its opposite, and others.
func points(seed source) []spot {
	l := []spot{neutral(), base(), base().negative(), base().times(whole(2))}
	for range 3 {
		l = append(l, base().times(seed.below()))
	}
	return l
}

// TestChallenge: P12.1, h of points of the group and of messages.
func TestChallenge(t *testing.T) {
	l := points(106)
	for _, r := range l {
		for _, key := range l {
			want := word(challenge(r, key, []byte("a message")))
			mustBe(t, "Challenge", want)(eddsa.Challenge(r.ed(), key.ed(), []byte("a message")))
		}
	}
	for _, message := range messages(107) {
		want := word(challenge(l[4], l[5], message))
		mustBe(t, "Challenge", want)(eddsa.Challenge(l[4].ed(), l[5].ed(), message))
	}
}

// TestChallengeBelow: P12.1, h is the digest modulo l, not as it stands: of all rests by 8 that a digest's quotient may have.
func TestChallengeBelow(t *testing.T) {
	quotients := map[int64]int{}
	for i := range 80 {
		message := []byte{byte(i)}
		h, _ := eddsa.Challenge(jubjub.Base(), jubjub.Base(), message)
		if number(h).Cmp(order()) >= 0 {
			t.Error("Challenge", i, h)
		}
		quotients[quotient(message)]++
	}
	if len(quotients) < cofactor {
		t.Error("the test's digests are all alike", quotients)
	}
}

// quotient is how often l is in the digest of the base point twice and a message.
func quotient(message []byte) int64 {
	b := base()
	return new(big.Int).Div(digest(message, b.x, b.y, b.x, b.y), order()).Int64()
}

// TestCheck: P12.2, of R in the group and S below l.
func TestCheck(t *testing.T) {
	for _, p := range points(108) {
		for _, n := range belowOrder() {
			if e := eddsa.Check(api.Signature{R: p.ed(), S: n}); e != api.OK {
				t.Error("Check", p, n, e)
			}
		}
		for _, n := range tooGreat() {
			if e := eddsa.Check(api.Signature{R: p.ed(), S: n}); e != api.ErrRange {
				t.Error("Check", p, n, e)
			}
		}
	}
}

// TestVerify: P12.2, of all that holds: signed by the nonce that the chapter names, or by any other.
func TestVerify(t *testing.T) {
	s := source(109)
	for _, n := range secrets(110) {
		key := base().times(n)
		message := s.bytes(int(s.word() % 100))
		for _, k := range []*big.Int{hash(message, n), whole(0), whole(1), s.below()} {
			signed := signWith(k, n, key, message)
			if e := eddsa.Verify(key.ed(), message, signed); e != api.OK {
				t.Error("Verify", n, k, message, e)
			}
		}
	}
	for _, message := range messages(111) {
		signed := sign(whole(9), base().times(whole(9)), message)
		if e := eddsa.Verify(base().times(whole(9)).ed(), message, signed); e != api.OK {
			t.Error("Verify", message, e)
		}
	}
}

// beside are signatures that differ from s a little, each of which may be.
func beside(s api.Signature) []api.Signature {
	r, n := spotOf(s.R), number(s.S)
	l := []api.Signature{{R: s.R}, {R: neutral().ed()}, {R: neutral().ed(), S: s.S}, {R: base().ed(), S: s.S}, {R: r.negative().ed(), S: word(rest(new(big.Int).Neg(n)))}}
	for _, q := range []spot{r.negative(), r.plus(base()), r.plus(base().negative()), r.plus(r)} {
		l = append(l, api.Signature{R: q.ed(), S: s.S})
	}
	for _, i := range []*big.Int{whole(1), whole(-1), n, new(big.Int).Lsh(whole(1), 64), new(big.Int).Lsh(whole(1), 128), new(big.Int).Lsh(whole(1), 192), new(big.Int).Rsh(order(), 1)} {
		l = append(l, api.Signature{R: s.R, S: word(rest(sum(n, i)))})
	}
	// Of both by one more: the equation's two sides are then not one because h is another.
	return append(l, api.Signature{R: r.plus(base()).ed(), S: word(rest(sum(n, whole(1))))})
}

// TestVerifyNot: P12.2, ErrSignature of each other R, S, key and message.
func TestVerifyNot(t *testing.T) {
	s := source(112)
	for _, n := range secrets(113)[2:5] {
		key := base().times(n)
		message := s.bytes(1 + int(s.word()%70))
		signed := sign(n, key, message)
		for _, other := range beside(signed) {
			if holds(key, message, other) {
				t.Fatal("the test's own signature holds", n, other)
			}
			if e := eddsa.Verify(key.ed(), message, other); e != api.ErrSignature {
				t.Error("Verify of another signature", n, other, e)
			}
		}
		for _, other := range []spot{key.negative(), key.plus(base()), key.plus(key), neutral()} {
			if e := eddsa.Verify(other.ed(), message, signed); e != api.ErrSignature {
				t.Error("Verify by another key", n, other, e)
			}
		}
		turned := slices.Clone(message)
		turned[len(turned)-1] ^= 1
		for _, other := range [][]byte{nil, message[1:], message[:len(message)-1], slices.Concat(message, []byte{0}), slices.Concat([]byte{0}, message), turned} {
			if e := eddsa.Verify(key.ed(), other, signed); e != api.ErrSignature {
				t.Error("Verify of another message", n, other, e)
			}
		}
	}
}

// TestVerifyOpposite: P12.2, ErrSignature where the equation leads to R's opposite, which has its Y.
func TestVerifyOpposite(t *testing.T) {
	secret, message := whole(11), []byte("opposite")
	key := base().times(secret)
	for k := int64(1); k < 5; k++ {
		signed := signWith(whole(k), secret, key, message)
		signed.S = word(rest(minus(number(signed.S), whole(2*k))))
		if e := eddsa.Verify(key.ed(), message, signed); e != api.ErrSignature {
			t.Error("Verify", k, e)
		}
	}
}

// many are as many signed messages.
func many(n int) ([]api.Ed, [][]byte, []api.Signature) {
	var keys []api.Ed
	var messages [][]byte
	var l []api.Signature
	for i := range n {
		secret := api.Word{uint64(i%5 + 1)}
		key, _ := eddsa.Public(secret)
		s, _ := eddsa.Sign(secret, []byte{byte(i)})
		keys, messages, l = append(keys, key), append(messages, []byte{byte(i)}), append(l, s)
	}
	return keys, messages, l
}

// mustVerify tells whether VerifyAll answers the error and the number.
func mustVerify(t *testing.T, keys []api.Ed, messages [][]byte, l []api.Signature, wrong api.Errno, want int) {
	t.Helper()
	if e, n := eddsa.VerifyAll(keys, messages, l); e != wrong || n != want {
		t.Error("VerifyAll", e, n, "and not", wrong, want)
	}
}

// TestVerifyAll: P12.2, OK and how many, or the first one's error, and its number.
func TestVerifyAll(t *testing.T) {
	mustVerify(t, nil, nil, nil, api.OK, 0)
	mustVerify(t, []api.Ed{}, [][]byte{}, []api.Signature{}, api.OK, 0)
	keys, messages, l := many(6)
	for i := range len(l) + 1 {
		mustVerify(t, keys[:i], messages[:i], l[:i], api.OK, i)
	}
	wrong := []struct {
		e    api.Errno
		make func(int)
	}{
		{api.ErrCurve, func(i int) { keys[i] = api.Ed{} }},
		{api.ErrPoint, func(i int) { l[i].R = small()[0].ed() }},
		{api.ErrRange, func(i int) { l[i].S = jubjub.Order() }},
		{api.ErrLong, func(i int) { messages[i] = make([]byte, longest+1) }},
		{api.ErrSignature, func(i int) { messages[i] = nil }},
	}
	// From the last one on, so that each time one more is wrong, and it stands ahead of the others.
	for place := len(l) - 1; place >= 0; place-- {
		w := wrong[place%len(wrong)]
		w.make(place)
		mustVerify(t, keys, messages, l, w.e, place)
		mustVerify(t, keys[:place], messages[:place], l[:place], api.OK, place)
	}
}

// TestVerifyAllMost: P12.2, of 256, the last of which may be wrong.
func TestVerifyAllMost(t *testing.T) {
	keys, messages, l := many(256)
	mustVerify(t, keys, messages, l, api.OK, 256)
	messages[255] = []byte{0}
	mustVerify(t, keys, messages, l, api.ErrSignature, 255)
}

// bytesOf are those that the chapter names, of an S of any size.
func bytesOf(r spot, s api.Word) []byte {
	return slices.Concat(r.bytes(), number(s).FillBytes(make([]byte, size)))
}

// TestBytes: P12.3, those of R, then S, the highest byte first.
func TestBytes(t *testing.T) {
	for _, p := range points(114) {
		for _, n := range append(belowOrder(), api.Word{0x0102030405060708, 0x1112131415161718, 0x2122232425262728, 0x0001020304050607}) {
			b, e := eddsa.Bytes(api.Signature{R: p.ed(), S: n})
			if e != api.OK || !bytes.Equal(b, bytesOf(p, n)) {
				t.Error("Bytes", p, n, b, e)
			}
		}
	}
}

// TestRead: P12.3, of all R and S that may be.
func TestRead(t *testing.T) {
	for _, p := range points(115) {
		for _, n := range belowOrder() {
			mustBe(t, "Read", api.Signature{R: p.ed(), S: n})(eddsa.Read(bytesOf(p, n)))
		}
	}
}
