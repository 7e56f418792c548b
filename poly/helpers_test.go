package poly_test

import (
	"math/big"
	"slices"
	"testing"

	"causeway/api"
	"causeway/limbs"
)

const most = 1<<64 - 1

// order is r, from the document's digits.
func order() *big.Int {
	n, _ := new(big.Int).SetString("21888242871839275222246405745257275088548364400416034343698204186575808495617", 10)
	return n
}

// number is an element by another program's means; element leads back, modulo r, from below 0, too.
func number(a api.Fe) *big.Int { return new(big.Int).SetBytes(limbs.Bytes(api.Word(a))) }

func element(n *big.Int) api.Fe { return plain(new(big.Int).Mod(n, order())) }

// plain is a number of 256 bits as it stands, below r or not.
func plain(n *big.Int) api.Fe {
	a, _ := limbs.Read(n.FillBytes(make([]byte, 32)))
	return api.Fe(a)
}

// whole is a small number's element, and list are some.
func whole(n int64) api.Fe { return element(big.NewInt(n)) }

func list(l ...int64) []api.Fe {
	var out []api.Fe
	for _, n := range l {
		out = append(out, whole(n))
	}
	return out
}

// above are numbers that are not below r.
func above() []api.Fe {
	return []api.Fe{
		plain(order()), plain(order().Add(order(), big.NewInt(1))),
		{0, 0, 0, 0x3064_4e72_e131_a02a}, {0, 0, 0, 1 << 63}, {most, most, most, most},
	}
}

// source draws numbers by xorshift: the same ones in each run.
type source uint64

func (s *source) word() uint64 {
	x := uint64(*s)
	x ^= x << 13
	x ^= x >> 7
	x ^= x << 17
	*s = source(x)
	return x
}

// element draws one; 0, 1 and -1 are among many.
func (s *source) element() api.Fe {
	switch s.word() % 8 {
	case 0:
		return api.Fe{}
	case 1:
		return whole(1)
	case 2:
		return whole(-1)
	}
	return s.wide()
}

// wide draws one of all evenly, hardly ever 0.
func (s *source) wide() api.Fe {
	return element(number(api.Fe{s.word(), s.word(), s.word(), s.word()}))
}

// list draws so many elements.
func (s *source) list(n int) []api.Fe {
	l := make([]api.Fe, n)
	for i := range l {
		l[i] = s.element()
	}
	return l
}

// full draws a polynomial of the degree n - 1.
func (s *source) full(n int) []api.Fe {
	l := s.list(n)
	if n > 0 {
		l[n-1] = s.wide()
	}
	return l
}

// tailed is the list with so many zeros behind.
func tailed(l []api.Fe, zeros int) []api.Fe {
	return append(slices.Clone(l), make([]api.Fe, zeros)...)
}

// monomial is X to the n.
func monomial(n int) []api.Fe { return append(make([]api.Fe, n), whole(1)) }

// some are polynomials of few coefficients, some not trimmed, nil and empty among them.
func (s *source) some() [][]api.Fe {
	l := [][]api.Fe{nil, {}, list(0), list(0, 0, 0), list(1), list(-1), list(0, 1), list(-1, 1, 0), list(0, 0, 0, 0, 5)}
	for n := range 20 {
		l = append(l, s.list(n), tailed(s.full(n), int(s.word()%4)))
	}
	return l
}

// short is the list without zeros behind, by the test's own means.
func short(l []api.Fe) []api.Fe {
	end := 0
	for i, a := range l {
		if a != (api.Fe{}) {
			end = i + 1
		}
	}
	return l[:end]
}

// placed is, trimmed, what of tells of both coefficients, place by place.
func placed(a, b []api.Fe, of func(a, b *big.Int) *big.Int) []api.Fe {
	var out []api.Fe
	for i := range max(len(a), len(b)) {
		x, y := new(big.Int), new(big.Int)
		if i < len(a) {
			x = number(a[i])
		}
		if i < len(b) {
			y = number(b[i])
		}
		out = append(out, element(of(x, y)))
	}
	return short(out)
}

func sum(a, b []api.Fe) []api.Fe {
	return placed(a, b, func(a, b *big.Int) *big.Int { return a.Add(a, b) })
}

func less(a, b []api.Fe) []api.Fe {
	return placed(a, b, func(a, b *big.Int) *big.Int { return a.Sub(a, b) })
}

// product is the product by the schoolbook, trimmed.
func product(a, b []api.Fe) []api.Fe {
	if len(a) == 0 || len(b) == 0 {
		return nil
	}
	sums := make([]big.Int, len(a)+len(b)-1)
	for i := range a {
		for j := range b {
			sums[i+j].Add(&sums[i+j], new(big.Int).Mul(number(a[i]), number(b[j])))
		}
	}
	var out []api.Fe
	for i := range sums {
		out = append(out, element(&sums[i]))
	}
	return short(out)
}

// value is the polynomial's at x, power by power.
func value(a []api.Fe, x api.Fe) api.Fe {
	all, power := new(big.Int), big.NewInt(1)
	for _, c := range a {
		all.Add(all, new(big.Int).Mul(number(c), power))
		power.Mul(power, number(x)).Mod(power, order())
	}
	return element(all)
}

// times is the product of elements.
func times(l ...api.Fe) api.Fe {
	all := big.NewInt(1)
	for _, a := range l {
		all.Mul(all, number(a)).Mod(all, order())
	}
	return element(all)
}

// raised is a to the n, below 0 too.
func raised(a api.Fe, n int64) api.Fe {
	return element(new(big.Int).Exp(number(a), big.NewInt(n), order()))
}

// rootOf is the document's root of a domain.
func rootOf(log int) api.Fe {
	n := new(big.Int).Sub(order(), big.NewInt(1))
	n.Div(n, new(big.Int).Lsh(big.NewInt(1), uint(log)))
	return element(new(big.Int).Exp(big.NewInt(5), n, order()))
}

// must tells whether a polynomial is answered as it should be, trimmed, without an error.
func must(t *testing.T, what string, got []api.Fe, e api.Errno, want []api.Fe) {
	t.Helper()
	if e != api.OK || !slices.Equal(got, want) {
		t.Fatal(what, len(got), len(want), got[:min(8, len(got))], e, want[:min(8, len(want))])
	}
}
