package kzg_test

import (
	"slices"
	"testing"

	"causeway/api"
	"causeway/kzg"
)

// mustBe tells whether an error is OK just where it should be, and ErrCheck elsewhere.
func mustBe(t *testing.T, what string, e api.Errno, holds bool) {
	t.Helper()
	want := api.ErrCheck
	if holds {
		want = api.OK
	}
	if e != want {
		t.Error(what, e, want)
	}
}

// around are a claim and others next to it, in each of its parts.
func around(s *source, c stated) []stated {
	l := []stated{c}
	for _, by := range []api.Fe{whole(1), whole(-1), s.wide()} {
		for part := range 4 {
			next := c
			one := []*api.Fe{&next.c, &next.at, &next.value, &next.w}[part]
			*one = plus(*one, by)
			l = append(l, next)
		}
	}
	next := c
	next.w = minus(api.Fe{}, c.w)
	return append(l, next)
}

// TestVerify: P8.2 and G2 of DOC.md, over logarithms a claim is taken just if the equation holds.
func TestVerify(t *testing.T) {
	t.Parallel()
	s := source(91)
	for _, l := range s.various() {
		srs := l.srs()
		taken := 0
		for _, c := range around(&s, l.good(&s)) {
			holds := l.off(c) == api.Fe{}
			mustBe(t, "Verify", kzg.Verify(srs, c.claim()), holds)
			if holds {
				taken++
			}
		}
		if taken == 0 {
			t.Error("the good claim is none", l)
		}
	}
}

// TestVerifyEdges: P8.2, points at infinity, and a place at which X - At One is infinity: there any W will do, but one value alone.
func TestVerifyEdges(t *testing.T) {
	t.Parallel()
	s := source(92)
	for _, l := range s.various() {
		srs := l.srs()
		tau := over(l.x, l.one)
		value := s.wide()
		for _, c := range []stated{
			{}, {at: whole(1)}, {value: whole(1)}, {w: whole(1)}, {c: l.g[0], value: whole(1)}, {c: l.g[0], at: s.wide(), value: whole(1)},
			{c: times(value, l.g[0]), at: tau, value: value, w: s.wide()},
			{c: times(value, l.g[0]), at: tau, value: value},
			{c: times(value, l.g[0]), at: tau, value: plus(value, whole(1)), w: s.wide()},
			{c: s.wide(), at: tau, value: value, w: s.wide()},
		} {
			mustBe(t, "Verify", kzg.Verify(srs, c.claim()), l.off(c) == api.Fe{})
		}
	}
}

// TestVerifyAll: P8.3, over logarithms the claims are taken just if their product is one, each to the by^i.
func TestVerifyAll(t *testing.T) {
	t.Parallel()
	s := source(93)
	for _, l := range s.various() {
		srs := l.srs()
		all := []stated{l.good(&s), l.good(&s), l.good(&s), l.good(&s)}
		for n := 1; n <= len(all); n++ {
			for _, by := range []api.Fe{{}, whole(1), s.wide()} {
				mustBe(t, "VerifyAll", kzg.VerifyAll(srs, claims(all[:n]), by), true)
				for i := range n {
					wrong := slices.Clone(all[:n])
					wrong[i] = around(&s, wrong[i])[1+s.word()%13]
					mustBe(t, "VerifyAll of a wrong claim", kzg.VerifyAll(srs, claims(wrong), by), l.offAll(wrong, by) == api.Fe{})
				}
			}
		}
	}
}

// TestVerifyAllTogether: P8.3, claims of which none holds are taken, if their faults make up for one another by just that by; with a by of 0 the first one alone counts.
func TestVerifyAllTogether(t *testing.T) {
	t.Parallel()
	s := source(94)
	for _, l := range s.various()[3:] {
		srs := l.srs()
		by, fault := s.wide(), s.wide()
		all := []stated{l.good(&s), l.good(&s), l.good(&s)}
		all[0].c = plus(all[0].c, times(fault, by, by))
		all[2].c = minus(all[2].c, fault)
		mustBe(t, "Verify of the first", kzg.Verify(srs, all[0].claim()), false)
		mustBe(t, "Verify of the last", kzg.Verify(srs, all[2].claim()), false)
		for _, other := range []api.Fe{by, minus(api.Fe{}, by), {}, whole(1), plus(by, whole(1))} {
			mustBe(t, "VerifyAll", kzg.VerifyAll(srs, claims(all), other), other == by || plus(other, by) == api.Fe{})
		}
		mustBe(t, "VerifyAll", kzg.VerifyAll(srs, claims(all[1:]), api.Fe{}), true)
		mustBe(t, "VerifyAll", kzg.VerifyAll(srs, claims(all[1:]), by), false)
	}
}

// TestVerifyAllMost: P8.3, 64 claims, a fault in the last one among them, and no more.
func TestVerifyAllMost(t *testing.T) {
	t.Parallel()
	s := source(95)
	l := of(s.wide(), 3)
	srs := l.srs()
	var all []kzg.Claim
	for range 64 {
		all = append(all, l.good(&s).claim())
	}
	by := s.wide()
	mustBe(t, "VerifyAll", kzg.VerifyAll(srs, all, by), true)
	all[63].Value = plus(all[63].Value, whole(1))
	mustBe(t, "VerifyAll", kzg.VerifyAll(srs, all, by), false)
	if e := kzg.VerifyAll(srs, append(all, all[0]), by); e != api.ErrCount {
		t.Error("VerifyAll of 65", e)
	}
}

// several are claims at one place with one W, by logarithms.
type several struct {
	c, values []api.Fe
	at, by, w api.Fe
}

// one is the claim of the sums.
func (m several) one() stated {
	return stated{c: mixed(m.c, m.by), at: m.at, value: mixed(m.values, m.by), w: m.w}
}

// verified is VerifyMany's answer.
func (m several) verified(srs kzg.SRS) api.Errno {
	var c []api.G1
	for _, n := range m.c {
		c = append(c, of1(n))
	}
	return kzg.VerifyMany(srs, c, m.at, m.values, m.by, of1(m.w))
}

// severally draws so many that hold.
func (l logs) severally(s *source, n int, by api.Fe) several {
	m := several{c: s.list(n), values: s.list(n), at: s.wide(), by: by}
	sum := m.one()
	m.w = over(times(minus(sum.c, times(sum.value, l.g[0])), l.one), minus(l.x, times(m.at, l.one)))
	return m
}

// TestVerifyMany: P8.3, over logarithms they are taken just if Verify takes the claim of the sums.
func TestVerifyMany(t *testing.T) {
	t.Parallel()
	s := source(96)
	for _, l := range s.various() {
		srs := l.srs()
		for _, n := range []int{1, 2, 5} {
			for _, by := range []api.Fe{{}, whole(-1), s.wide()} {
				good := l.severally(&s, n, by)
				mustBe(t, "VerifyMany", good.verified(srs), true)
				wrong := []several{good, good, good, good, good}
				wrong[0].at = plus(good.at, whole(1))
				wrong[1].by = plus(by, whole(1))
				wrong[2].w = plus(good.w, whole(-1))
				wrong[3].c = slices.Clone(good.c)
				wrong[3].c[n-1] = s.wide()
				wrong[4].values = slices.Clone(good.values)
				wrong[4].values[n-1] = s.wide()
				for _, m := range wrong {
					mustBe(t, "VerifyMany", m.verified(srs), l.off(m.one()) == api.Fe{})
				}
			}
		}
	}
}

// TestVerifyManyTogether: P8.3, values that are wrong each, but right in the sum, are taken.
func TestVerifyManyTogether(t *testing.T) {
	t.Parallel()
	s := source(97)
	l := of(s.wide(), 3)
	srs := l.srs()
	m := l.severally(&s, 4, s.wide())
	m.values[0] = plus(m.values[0], m.by)
	mustBe(t, "VerifyMany", m.verified(srs), false)
	m.values[1] = minus(m.values[1], whole(1))
	mustBe(t, "VerifyMany", m.verified(srs), true)
	most := l.severally(&s, 64, s.wide())
	mustBe(t, "VerifyMany of 64", most.verified(srs), true)
	most.values[63] = plus(most.values[63], whole(1))
	mustBe(t, "VerifyMany of 64", most.verified(srs), false)
	if e := l.severally(&s, 65, s.wide()).verified(srs); e != api.ErrCount {
		t.Error("VerifyMany of 65", e)
	}
}
