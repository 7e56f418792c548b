package kzg_test

import (
	"slices"
	"testing"

	"causeway/api"
	"causeway/curve"
	"causeway/kzg"
)

// TestExamples: the chapter's.
func TestExamples(t *testing.T) {
	s := setup(t, whole(2), 3)
	if !slices.Equal(s.G, []api.G1{of1(whole(1)), of1(whole(2)), of1(whole(4)), of1(whole(8))}) {
		t.Error("Setup", s.G)
	}
	if c, e := kzg.Commit(s, list(1, 1)); c != of1(whole(3)) || e != api.OK {
		t.Error("Commit", c, e)
	}
	value, w, e := kzg.Open(s, list(0, 0, 1), whole(3))
	if value != whole(9) || w != of1(whole(5)) || e != api.OK {
		t.Error("Open", value, w, e)
	}
	c, _ := kzg.Commit(s, list(0, 0, 1))
	if e := kzg.Verify(s, kzg.Claim{C: c, At: whole(3), Value: whole(9), W: w}); e != api.OK {
		t.Error("Verify", e)
	}
	if e := kzg.Verify(s, kzg.Claim{C: c, At: whole(3), Value: whole(8), W: w}); e != api.ErrCheck {
		t.Error("Verify", e)
	}
	if _, e := kzg.Setup(whole(0), 3); e != api.ErrZero {
		t.Error("Setup", e)
	}
}

// polynomials are some that an SRS of so many points commits to: nil and empty, 0 in long forms, with zeros behind, and of the highest degree.
func (s *source) polynomials(points int) [][]api.Fe {
	full := s.list(points)
	full[points-1] = s.wide()
	return [][]api.Fe{
		nil, {}, list(0), make([]api.Fe, points+9), list(1), list(-1), list(0, 1), s.list(points - 1), full,
		append(slices.Clone(full), make([]api.Fe, 40)...), append(list(3), make([]api.Fe, 100)...),
	}
}

// TestCommit: P8.2, the sum of the points, each times its coefficient, of any SRS that may be.
func TestCommit(t *testing.T) {
	s := source(86)
	for _, l := range s.various() {
		srs := l.srs()
		for _, a := range s.polynomials(len(l.g)) {
			if c, e := kzg.Commit(srs, a); c != of1(l.committed(a)) || e != api.OK {
				t.Error("Commit", l, a, c, e)
			}
		}
	}
}

// TestOpen: P8.2, the value, and the commitment to the quotient.
func TestOpen(t *testing.T) {
	s := source(87)
	for _, l := range s.various() {
		srs := l.srs()
		for _, a := range s.polynomials(len(l.g)) {
			for _, at := range []api.Fe{{}, whole(-1), s.wide(), l.x} {
				quotient, rest := long(a, at)
				value, w, e := kzg.Open(srs, a, at)
				if value != rest || w != of1(l.committed(quotient)) || e != api.OK {
					t.Error("Open", l, a, at, value, w, e)
				}
			}
		}
	}
}

// TestOpenMany: P8.3, the values, and the commitment to the sum's quotient; of 1, of 64 and of those between.
func TestOpenMany(t *testing.T) {
	s := source(88)
	for _, l := range s.various() {
		srs := l.srs()
		all := s.polynomials(len(l.g))
		for _, n := range []int{1, 2, 3, len(all)} {
			for _, by := range []api.Fe{{}, whole(1), whole(-1), s.wide()} {
				mustOpenMany(t, l, srs, all[len(all)-n:], s.element(), by)
			}
		}
		mustOpenMany(t, l, srs, slices.Repeat(all[:8], 8), s.wide(), s.wide())
		mustOpenMany(t, l, srs, slices.Repeat(all[len(all)-1:], 64), l.x, s.wide())
	}
}

// mustOpenMany tells whether OpenMany answers what is reckoned list by list.
func mustOpenMany(t *testing.T, l logs, srs kzg.SRS, all [][]api.Fe, at, by api.Fe) {
	t.Helper()
	var wantValues, wantLogs []api.Fe
	for _, a := range all {
		quotient, rest := long(a, at)
		wantValues = append(wantValues, rest)
		wantLogs = append(wantLogs, l.committed(quotient))
	}
	values, w, e := kzg.OpenMany(srs, all, at, by)
	if !slices.Equal(values, wantValues) || w != of1(mixed(wantLogs, by)) || e != api.OK {
		t.Error("OpenMany", l, all, at, by, values, w, e)
	}
}

// TestLongest: P8.2, polynomials of as many coefficients as there may be.
func TestLongest(t *testing.T) {
	t.Parallel()
	s := kzg.SRS{G: slices.Repeat([]api.G1{curve.Gen1()}, api.MaxPoints), One: curve.Gen2(), X: of2(whole(9))}
	a := make([]api.Fe, api.MaxDegree)
	a[0], a[7], a[api.MaxDegree-1] = whole(5), whole(-9), whole(3)
	if c, e := kzg.Commit(s, a); c != of1(whole(-1)) || e != api.OK {
		t.Error("Commit", c, e)
	}
	value, w, e := kzg.Open(s, a, whole(1))
	// At 1 the quotient's coefficients are -6 seven times and 3 behind these, all but the last.
	want := whole(-6*7 + 3*(api.MaxDegree-8))
	if value != whole(-1) || w != of1(want) || e != api.OK {
		t.Error("Open", value, w, e)
	}
	if _, e := kzg.Commit(s, append(a, api.Fe{})); e != api.ErrDegree {
		t.Error("Commit of more", e)
	}
	s.G = s.G[:api.MaxPoints-1]
	if _, e := kzg.Commit(s, a); e != api.ErrSRS {
		t.Error("Commit with fewer points", e)
	}
	a[api.MaxDegree-1] = api.Fe{}
	if c, e := kzg.Commit(s, a); c != of1(whole(-4)) || e != api.OK {
		t.Error("Commit with a zero behind", c, e)
	}
}
