package eddsa_test

import (
	"slices"
	"testing"

	"causeway/api"
	"causeway/eddsa"
	"causeway/jubjub"
)

// tooLong is a message that is.
func tooLong() []byte { return make([]byte, longest+1) }

// wrongPoint is a point, and what is wrong with it.
type wrongPoint struct {
	p api.Ed
	e api.Errno
}

// wrongPoints are all of them.
func wrongPoints() []wrongPoint {
	var l []wrongPoint
	for _, p := range offCurve() {
		l = append(l, wrongPoint{p, api.ErrCurve})
	}
	for _, p := range outside() {
		l = append(l, wrongPoint{p, api.ErrPoint})
	}
	return l
}

// TestNoSecret: P12.1 and P4 of DOC.md, ErrKey of 0 and from l on, ahead of ErrLong.
func TestNoSecret(t *testing.T) {
	for _, n := range noSecrets() {
		mustRefuse[api.Ed](t, "Public", api.ErrKey)(eddsa.Public(word(n)))
		for _, message := range [][]byte{nil, []byte("a"), tooLong()} {
			mustRefuse[api.Signature](t, "Sign", api.ErrKey)(eddsa.Sign(word(n), message))
		}
	}
}

// TestTooLong: P12.1 and P12.2, ErrLong from 4097 bytes on.
func TestTooLong(t *testing.T) {
	key, _ := eddsa.Public(api.Word{5})
	signed, _ := eddsa.Sign(api.Word{5}, make([]byte, longest))
	for _, n := range []int{longest + 1, longest + 31, 2 * longest, 1 << 17} {
		mustRefuse[api.Signature](t, "Sign", api.ErrLong)(eddsa.Sign(api.Word{5}, make([]byte, n)))
		mustRefuse[api.Word](t, "Challenge", api.ErrLong)(eddsa.Challenge(signed.R, key, make([]byte, n)))
		if e := eddsa.Verify(key, make([]byte, n), signed); e != api.ErrLong {
			t.Error("Verify", n, e)
		}
	}
	if e := eddsa.Verify(key, make([]byte, longest), signed); e != api.OK {
		t.Error("Verify of the longest", e)
	}
}

// TestChallengeRefused: P12.1 and P4 of DOC.md, r's error, the key's, ErrLong.
func TestChallengeRefused(t *testing.T) {
	l := append(wrongPoints(), wrongPoint{jubjub.Base(), api.OK})
	for _, r := range l {
		for _, key := range []wrongPoint{l[0], l[len(l)-2], l[len(l)-1]} {
			for _, message := range [][]byte{nil, tooLong()} {
				want := first(r.e, key.e)
				if len(message) > longest {
					want = first(want, api.ErrLong)
				}
				if want != api.OK {
					mustRefuse[api.Word](t, "Challenge", want)(eddsa.Challenge(r.p, key.p, message))
				}
			}
		}
		if r.e != api.OK {
			mustRefuse[api.Word](t, "Challenge", r.e)(eddsa.Challenge(jubjub.Base(), r.p, nil))
		}
	}
}

// first is the first error that is one.
func first(l ...api.Errno) api.Errno {
	for _, e := range l {
		if e != api.OK {
			return e
		}
	}
	return api.OK
}

// TestCheckRefused: P12.2, P12.3 and P4 of DOC.md, R's error goes ahead of ErrRange, in Bytes too.
func TestCheckRefused(t *testing.T) {
	for _, w := range append(wrongPoints(), wrongPoint{jubjub.Base(), api.OK}, wrongPoint{jubjub.Neutral(), api.OK}) {
		for _, n := range append(tooGreat(), api.Word{}) {
			want := w.e
			if n != (api.Word{}) {
				want = first(want, api.ErrRange)
			}
			s := api.Signature{R: w.p, S: n}
			if e := eddsa.Check(s); e != want {
				t.Error("Check", s, e, "and not", want)
			}
			if b, e := eddsa.Bytes(s); e != want || e != api.OK && len(b) != 0 {
				t.Error("Bytes", s, b, e, "and not", want)
			}
		}
	}
}

// TestVerifyRefused: P12.2 and P4 of DOC.md, the key's error, R's, ErrRange, ErrLong, ErrSignature, each ahead of all behind it.
func TestVerifyRefused(t *testing.T) {
	l := wrongPoints()
	few := []wrongPoint{l[0], l[len(l)-1], {jubjub.Base(), api.OK}}
	for _, key := range append(l, few[2]) {
		for _, r := range few {
			for _, n := range []api.Word{{3}, jubjub.Order(), {most, most, most, most}} {
				for _, message := range [][]byte{nil, tooLong()} {
					checkVerify(t, key, r, n, message)
				}
			}
		}
	}
	for _, r := range l {
		checkVerify(t, few[2], r, api.Word{3}, nil)
	}
}

// checkVerify tells whether Verify answers the first error; nothing that it is given holds.
func checkVerify(t *testing.T, key, r wrongPoint, n api.Word, message []byte) {
	t.Helper()
	tooMuch, long := api.OK, api.OK
	if n != (api.Word{3}) {
		tooMuch = api.ErrRange
	}
	if len(message) > longest {
		long = api.ErrLong
	}
	want := first(key.e, r.e, tooMuch, long, api.ErrSignature)
	if e := eddsa.Verify(key.p, message, api.Signature{R: r.p, S: n}); e != want {
		t.Error("Verify", key, r, n, len(message), e, "and not", want)
	}
}

// TestVerifyStrict: P12.2, no point beside the group is taken for one of it, even where the equation, or 8 times it, holds.
func TestVerifyStrict(t *testing.T) {
	message := []byte("strict")
	secret := whole(77)
	for _, p := range small() {
		key := base().times(secret)
		// R with a small point in it: by 8 the equation holds.
		r := base().times(whole(5)).plus(p)
		s := word(rest(sum(whole(5), product2(challenge(r, key, message), secret))))
		if e := eddsa.Verify(key.ed(), message, api.Signature{R: r.ed(), S: s}); e != api.ErrPoint {
			t.Error("Verify of R", p, e)
		}
		// A key that is small: the equation holds wherever its order divides h.
		for i := range int64(12) {
			signed := api.Signature{R: base().times(whole(i)).ed(), S: api.Word{uint64(i)}}
			if e := eddsa.Verify(p.ed(), message, signed); e != api.ErrPoint {
				t.Error("Verify by a small key", p, i, e)
			}
		}
	}
}

// TestVerifyAllCount: P12.2 and P4 of DOC.md, ErrCount and 0 ahead of all that is wrong with one of them.
func TestVerifyAllCount(t *testing.T) {
	keys, messages, l := many(3)
	for i := range 4 {
		for j := range 4 {
			for k := range 4 {
				if i != j || j != k {
					mustVerify(t, keys[:i], messages[:j], l[:k], api.ErrCount, 0)
				}
			}
		}
	}
	for _, n := range []int{257, 258, 1000} {
		mustVerify(t, make([]api.Ed, n), make([][]byte, n), make([]api.Signature, n), api.ErrCount, 0)
	}
	mustVerify(t, make([]api.Ed, 256), make([][]byte, 256), make([]api.Signature, 256), api.ErrCurve, 0)
	mustVerify(t, make([]api.Ed, 256), make([][]byte, 256), make([]api.Signature, 255), api.ErrCount, 0)
	keys[0] = api.Ed{}
	mustVerify(t, keys, messages[:2], l, api.ErrCount, 0)
	keys, messages, l = many(257)
	mustVerify(t, keys, messages, l, api.ErrCount, 0)
}

// TestReadRefused: P12.3 and P4 of DOC.md, ErrCount, the error of the first 32, ErrRange, each ahead of those behind it.
func TestReadRefused(t *testing.T) {
	good := bytesOf(base(), api.Word{3})
	refuse := mustRefuse[api.Signature]
	refuse(t, "Read", api.ErrCount)(eddsa.Read(nil))
	for _, n := range []int{0, 1, 31, 32, 33, 63, 65, 96, 128} {
		refuse(t, "Read", api.ErrCount)(eddsa.Read(slices.Concat(good, good)[:n]))
		refuse(t, "Read", api.ErrCount)(eddsa.Read(slices.Repeat([]byte{255}, n)))
	}
	for _, n := range tooGreat() {
		refuse(t, "Read", api.ErrRange)(eddsa.Read(bytesOf(base(), n)))
		refuse(t, "Read", api.ErrRange)(eddsa.Read(bytesOf(neutral(), n)))
	}
	for _, p := range small() {
		for _, n := range []api.Word{{3}, jubjub.Order()} {
			refuse(t, "Read", api.ErrPoint)(eddsa.Read(bytesOf(p.plus(base()), n)))
		}
	}
	firsts := []struct {
		e     api.Errno
		bytes func(b []byte)
	}{
		{api.ErrElement, func(b []byte) { b[31] |= 0x7f }},
		{api.ErrCurve, func(b []byte) { copy(b, noPoint()) }},
		{api.ErrFlag, func(b []byte) { copy(b, neutral().bytes()); b[31] |= 128 }},
	}
	for _, f := range firsts {
		for _, n := range []api.Word{{3}, jubjub.Order(), {most, most, most, most}} {
			b := bytesOf(base(), n)
			f.bytes(b)
			refuse(t, "Read", f.e)(eddsa.Read(b))
		}
	}
}

// noPoint are 32 bytes of a Y that no point has.
func noPoint() []byte {
	b := make([]byte, size)
	for {
		b[0]++
		if _, e := jubjub.Read(b); e == api.ErrCurve {
			return b
		}
	}
}
