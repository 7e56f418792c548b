package field_test

import (
	"math"
	"math/big"

	"causeway/api"
	"causeway/field"
)

const most = 1<<64 - 1

// both are the two fields.
func both() []api.Field { return []api.Field{api.FieldP, api.FieldR} }

// others are fields that are none of the two.
func others() []api.Field {
	return []api.Field{0, -1, 3, 4, 1 << 16, math.MinInt, math.MaxInt}
}

// modulus is the field's, from the document's digits.
func modulus(f api.Field) *big.Int {
	digits := "21888242871839275222246405745257275088696311157297823662689037894645226208583"
	if f == api.FieldR {
		digits = "21888242871839275222246405745257275088548364400416034343698204186575808495617"
	}
	m, _ := new(big.Int).SetString(digits, 10)
	return m
}

// toBig is the number by another program's means.
func toBig(a [4]uint64) *big.Int {
	out := new(big.Int)
	for i := range a {
		out.Lsh(out, 64)
		out.Or(out, new(big.Int).SetUint64(a[3-i]))
	}
	return out
}

// fromBig is the number's four lowest words.
func fromBig(n *big.Int) [4]uint64 {
	rest := new(big.Int).Mod(n, power(256))
	mask := new(big.Int).SetUint64(most)
	var a [4]uint64
	for i := range a {
		a[i] = new(big.Int).And(rest, mask).Uint64()
		rest.Rsh(rest, 64)
	}
	return a
}

// power is 2^n.
func power(n uint) *big.Int { return new(big.Int).Lsh(big.NewInt(1), n) }

// element is the number modulo the field's modulus; of one below 0, too.
func element(f api.Field, n *big.Int) api.Fe {
	return api.Fe(fromBig(new(big.Int).Mod(n, modulus(f))))
}

// whole is a small number's element.
func whole(f api.Field, n int64) api.Fe { return element(f, big.NewInt(n)) }

// less is the modulus less n, as a number.
func less(f api.Field, n int64) api.Word {
	return fromBig(new(big.Int).Sub(modulus(f), big.NewInt(n)))
}

// source draws numbers by xorshift: the same ones in each run.
type source uint64

func (s *source) word() uint64 {
	x := uint64(*s)
	x ^= x << 13
	x ^= x >> 7
	x ^= x << 17
	*s = source(x)
	return x
}

// number draws 256 bits.
func (s *source) number() api.Word {
	return api.Word{s.word(), s.word(), s.word(), s.word()}
}

// edgy draws a number whose words are often the lowest, the highest, or the modulus's.
func (s *source) edgy(f api.Field) api.Word {
	m := fromBig(modulus(f))
	a := s.number()
	for i := range a {
		edges := []uint64{0, 0, 1, most, most, most - 1, 1 << 63, m[i], m[i], m[i] - 1, m[i] + 1, m[i] >> 1}
		if s.word()%3 != 0 {
			a[i] = edges[s.word()%uint64(len(edges))]
		}
	}
	return a
}

// element draws one of the field, each third of it from all evenly, the others by edgy words.
func (s *source) element(f api.Field) api.Fe {
	if s.word()%3 == 0 {
		return element(f, toBig(s.number()))
	}
	return element(f, toBig(s.edgy(f)))
}

// edges are elements at the ends of the field and of its words.
func edges(f api.Field) []api.Fe {
	m := modulus(f)
	half := new(big.Int).Rsh(m, 1)
	l := []api.Fe{}
	for _, at := range []*big.Int{big.NewInt(0), half, power(64), power(128), power(192), power(253), power(256), power(512), big.NewInt(1 << 32)} {
		for by := int64(-3); by <= 3; by++ {
			l = append(l, element(f, new(big.Int).Add(at, big.NewInt(by))))
		}
	}
	return l
}

// pairs calls do with pairs of edges and of drawn elements.
func pairs(f api.Field, draws int, do func(a, b api.Fe)) {
	for _, a := range edges(f) {
		for _, b := range edges(f) {
			do(a, b)
		}
	}
	s := source(2000 + f)
	for range draws {
		do(s.element(f), s.element(f))
	}
}

// outside are numbers that may not be for the field: its modulus and above.
func outside(f api.Field) []api.Fe {
	m := modulus(f)
	top := fromBig(m)[3]
	l := []api.Fe{{most, most, most, most}, {most, most, most, top}, {0, 0, 0, top + 1}, {0, 0, 0, most}, {0, 0, 0, 1 << 63}}
	for _, by := range []*big.Int{big.NewInt(0), big.NewInt(1), big.NewInt(2), power(64), power(128), power(192), m} {
		l = append(l, api.Fe(fromBig(new(big.Int).Add(m, by))))
	}
	if f == api.FieldR {
		l = append(l, api.Fe(less(api.FieldP, 0)), api.Fe(less(api.FieldP, 1)))
	}
	return l
}

// nothing: is there nothing beside the error?
func nothing(a api.Fe, e api.Errno) (bool, api.Errno) { return a == (api.Fe{}), e }

// asked is what a call answers where one of its elements is a: is there nothing, and the error.
type asked struct {
	name string
	of   func(f api.Field, a api.Fe) (bool, api.Errno)
}

// plain is all calls of one or two elements, a in each place.
func plain() []asked {
	one := field.Of(1)
	return []asked{
		{"Check", func(f api.Field, a api.Fe) (bool, api.Errno) { return true, field.Check(f, a) }},
		{"Add", func(f api.Field, a api.Fe) (bool, api.Errno) { return nothing(field.Add(f, a, one)) }},
		{"Add, second", func(f api.Field, a api.Fe) (bool, api.Errno) { return nothing(field.Add(f, one, a)) }},
		{"Sub", func(f api.Field, a api.Fe) (bool, api.Errno) { return nothing(field.Sub(f, a, one)) }},
		{"Sub, second", func(f api.Field, a api.Fe) (bool, api.Errno) { return nothing(field.Sub(f, one, a)) }},
		{"Mul", func(f api.Field, a api.Fe) (bool, api.Errno) { return nothing(field.Mul(f, a, one)) }},
		{"Mul, second", func(f api.Field, a api.Fe) (bool, api.Errno) { return nothing(field.Mul(f, one, a)) }},
		{"Neg", func(f api.Field, a api.Fe) (bool, api.Errno) { return nothing(field.Neg(f, a)) }},
		{"Inv", func(f api.Field, a api.Fe) (bool, api.Errno) { return nothing(field.Inv(f, a)) }},
		{"Div", func(f api.Field, a api.Fe) (bool, api.Errno) { return nothing(field.Div(f, a, one)) }},
		{"Div, second", func(f api.Field, a api.Fe) (bool, api.Errno) { return nothing(field.Div(f, one, a)) }},
		{"Div by 0", func(f api.Field, a api.Fe) (bool, api.Errno) { return nothing(field.Div(f, a, api.Fe{})) }},
		{"Exp", func(f api.Field, a api.Fe) (bool, api.Errno) { return nothing(field.Exp(f, a, api.Word{5})) }},
		{"Exp to the 0", func(f api.Field, a api.Fe) (bool, api.Errno) { return nothing(field.Exp(f, a, api.Word{})) }},
		{"Sqrt", func(f api.Field, a api.Fe) (bool, api.Errno) { return nothing(field.Sqrt(f, a)) }},
	}
}

// special is the calls that answer other things than an element, or take lists.
func special() []asked {
	one := field.Of(1)
	return []asked{
		{"Legendre", func(f api.Field, a api.Fe) (bool, api.Errno) {
			n, e := field.Legendre(f, a)
			return n == 0, e
		}},
		{"Lower", func(f api.Field, a api.Fe) (bool, api.Errno) {
			is, e := field.Lower(f, a)
			return !is, e
		}},
		{"Bytes", func(f api.Field, a api.Fe) (bool, api.Errno) {
			b, e := field.Bytes(f, a)
			return len(b) == 0, e
		}},
		{"Read", func(f api.Field, a api.Fe) (bool, api.Errno) {
			return nothing(field.Read(f, toBig(a).FillBytes(make([]byte, 32))))
		}},
		{"Invs", func(f api.Field, a api.Fe) (bool, api.Errno) {
			l, e := field.Invs(f, []api.Fe{one, {}, a})
			return len(l) == 0, e
		}},
		{"Invs, first", func(f api.Field, a api.Fe) (bool, api.Errno) {
			l, e := field.Invs(f, []api.Fe{a, one})
			return len(l) == 0, e
		}},
		{"Dot", func(f api.Field, a api.Fe) (bool, api.Errno) {
			return nothing(field.Dot(f, []api.Fe{one, a}, []api.Fe{one, {}}))
		}},
		{"Dot, second", func(f api.Field, a api.Fe) (bool, api.Errno) {
			return nothing(field.Dot(f, []api.Fe{{}, one}, []api.Fe{a, one}))
		}},
	}
}

// filled is a list of so many elements.
func filled(n int, with api.Fe) []api.Fe {
	l := make([]api.Fe, n)
	for i := range l {
		l[i] = with
	}
	return l
}
