package points_test

import (
	"bytes"
	"math/big"
	"slices"
	"testing"

	"causeway/api"
	"causeway/curve"
	"causeway/field"
	"causeway/limbs"
	"causeway/points"
	"causeway/tower"
)

const (
	most = 1<<64 - 1
	size = 32
)

// digits is the number of decimal digits, and prime is p, from the document's.
func digits(s string) *big.Int {
	n, _ := new(big.Int).SetString(s, 10)
	return n
}

func prime() *big.Int {
	return digits("21888242871839275222246405745257275088696311157297823662689037894645226208583")
}

// number is an element as it is told by 32 bytes, below p or not; element leads back.
func number(a api.Fe) *big.Int { return new(big.Int).SetBytes(limbs.Bytes(api.Word(a))) }

func element(n *big.Int) api.Fe {
	a, _ := limbs.Read(n.FillBytes(make([]byte, size)))
	return api.Fe(a)
}

// above are numbers from p on, all of 254 bits or fewer; wider are some of more.
func above() []api.Fe {
	end := new(big.Int).Lsh(big.NewInt(1), 254)
	return []api.Fe{
		element(prime()), element(prime().Add(prime(), big.NewInt(1))), element(end.Sub(end, big.NewInt(1))),
		{0, 0, 0, 0x3064_4e72_e131_a02a},
	}
}

func wider() []api.Fe {
	return []api.Fe{{0, 0, 0, 1 << 62}, {1, 0, 0, 1 << 63}, {0, 0, 0, 3 << 62}, {most, most, most, most}}
}

// face is one of the two groups: its calls, and its points as their parts, in the order in which the bytes have them: X's, then Y's.
type face[G comparable] struct {
	name  string
	check func(p G) api.Errno
	short func(p G) ([]byte, api.Errno)
	long  func(p G) ([]byte, api.Errno)
	read  func(b []byte) (G, api.Errno)
	add   func(p, q G) (G, api.Errno)
	whole int // how many parts a point has
	parts func(p G) ([]api.Fe, bool)
	of    func(l []api.Fe, infinite bool) G
	root  func(x []api.Fe) []api.Fe // one of X's two Y; nil, if it has none
	in    func(p G) bool            // the order of a point of the curve divides r
	good  []G
	bad   []refused[G]
}

// refused is a point that may not be, and its error.
type refused[G comparable] struct {
	point G
	wrong api.Errno
}

// one is G1.
func one() face[api.G1] {
	f := face[api.G1]{
		name: "1", check: points.Check1, short: points.Short1, long: points.Long1, read: points.Read1, add: curve.Add1,
		whole: 2,
		parts: func(p api.G1) ([]api.Fe, bool) { return []api.Fe{p.X, p.Y}, p.Inf },
		of:    func(l []api.Fe, infinite bool) api.G1 { return api.G1{X: l[0], Y: l[1], Inf: infinite} },
		root:  rootInP,
		in:    func(api.G1) bool { return true },
	}
	f.good = []api.G1{{Inf: true}}
	p := api.G1{Inf: true}
	for range 12 {
		p, _ = curve.Add1(p, curve.Gen1())
		f.good = append(f.good, p, f.negative(p))
	}
	// Half of all X have a Y.
	for x := range uint64(40) {
		if y := rootInP([]api.Fe{{x}}); y != nil {
			p := api.G1{X: api.Fe{x}, Y: y[0]}
			f.good = append(f.good, p, f.negative(p))
		}
	}
	f.bad = f.wrong()
	return f
}

// two is G2.
func two() face[api.G2] {
	f := face[api.G2]{
		name: "2", check: points.Check2, short: points.Short2, long: points.Long2, read: points.Read2, add: curve.Add2,
		whole: 4,
		parts: func(p api.G2) ([]api.Fe, bool) { return []api.Fe{p.X.B, p.X.A, p.Y.B, p.Y.A}, p.Inf },
		of: func(l []api.Fe, infinite bool) api.G2 {
			return api.G2{X: api.E2{A: l[1], B: l[0]}, Y: api.E2{A: l[3], B: l[2]}, Inf: infinite}
		},
		root: rootInTwo,
		in: func(p api.G2) bool {
			q, _ := curve.Mul2(p, curve.Order())
			return q.Inf
		},
	}
	f.good = []api.G2{{Inf: true}}
	p := api.G2{Inf: true}
	for range 16 {
		p, _ = curve.Add2(p, curve.Gen2())
		f.good = append(f.good, p, f.negative(p))
	}
	f.bad = f.wrong()
	for _, p := range outside() {
		f.bad = append(f.bad, refused[api.G2]{p, api.ErrGroup}, refused[api.G2]{f.negative(p), api.ErrGroup})
	}
	return f
}

// rootInP is a root of X^3 + 3, by another program's means.
func rootInP(x []api.Fe) []api.Fe {
	square := new(big.Int).Exp(number(x[0]), big.NewInt(3), prime())
	square.Add(square, big.NewInt(3)).Mod(square, prime())
	y := square.ModSqrt(square, prime())
	if y == nil {
		return nil
	}
	return []api.Fe{element(y)}
}

// rootInTwo is a root of X^3 + 3 / (9 + u).
func rootInTwo(x []api.Fe) []api.Fe {
	a := api.E2{A: x[1], B: x[0]}
	inverse, _ := tower.Inv2(api.E2{A: api.Fe{9}, B: api.Fe{1}})
	square := tower.Add2(tower.Mul2(tower.Mul2(a, a), a), tower.Mul2(inverse, api.E2{A: api.Fe{3}}))
	y, e := tower.Sqrt2(square)
	if e != api.OK {
		return nil
	}
	return []api.Fe{y.B, y.A}
}

// outside are points of the twist that are not in G2: those of small X, two of which Y has but one part, and one whose order does not have r as a factor.
func outside() []api.G2 {
	l := []api.G2{
		{
			X: api.E2{
				A: element(digits("16860447915893908144745022668869170094024604054612144315750478855813820146550")),
				B: element(digits("18807563779788613928316331866962986488771121879176364591366657151207493717790")),
			},
			Y: api.E2{A: field.Of(4)},
		},
		{
			X: api.E2{
				A: element(digits("2347429907930942971111655353872146944288676477812883217018820075284184868097")),
				B: element(digits("14411806371211556537412764382325190848789206122849649094465435622260654449378")),
			},
			Y: api.E2{B: field.Of(2)},
		},
	}
	for x := range uint64(8) {
		if y := rootInTwo([]api.Fe{{1}, {x}}); y != nil {
			l = append(l, api.G2{X: api.E2{A: api.Fe{x}, B: api.Fe{1}}, Y: api.E2{A: y[1], B: y[0]}})
		}
	}
	rest, _ := curve.Mul2(l[2], curve.Order())
	return append(l, rest)
}

// negative is the point with the other Y.
func (f face[G]) negative(p G) G {
	l, infinite := f.parts(p)
	for i := f.whole / 2; i < f.whole; i++ {
		less := new(big.Int).Sub(prime(), number(l[i]))
		l[i] = element(less.Mod(less, prime()))
	}
	return f.of(l, infinite)
}

// with is the point with one other part.
func (f face[G]) with(p G, at int, a api.Fe) G {
	l, infinite := f.parts(p)
	l[at] = a
	return f.of(l, infinite)
}

// infinity is the group's.
func (f face[G]) infinity() G { return f.of(make([]api.Fe, f.whole), true) }

// wrong are points that may not be, whatever the group: infinities that are not all 0, parts that are not below p, and no solutions.
func (f face[G]) wrong() []refused[G] {
	var none G
	l := []refused[G]{{none, api.ErrCurve}}
	put := func(p G, wrong api.Errno) { l = append(l, refused[G]{p, wrong}) }
	for _, p := range f.good[1:5] {
		x, _ := f.parts(p)
		put(f.of(x, true), api.ErrFlag)
		for i := range x {
			for _, a := range slices.Concat(above(), wider(), []api.Fe{{1}}) {
				put(f.with(f.infinity(), i, a), api.ErrFlag)
			}
			for _, a := range append(above(), wider()...) {
				// Another part makes that no point, too.
				put(f.with(p, i, a), api.ErrElement)
				put(f.with(f.with(p, i, a), (i+1)%f.whole, api.Fe{7}), api.ErrElement)
			}
			put(f.with(p, i, element(prime().Add(prime(), number(x[i])))), api.ErrElement)
			less := new(big.Int).Sub(number(x[i]), big.NewInt(1))
			put(f.with(p, i, element(less.Mod(less, prime()))), api.ErrCurve)
			less = less.Sub(prime(), number(x[i]))
			if i < f.whole/2 {
				put(f.with(p, i, element(less.Mod(less, prime()))), api.ErrCurve)
			}
		}
	}
	return l
}

// laid are the parts' bytes, one behind the other, and the two bits on top of the first one's own.
func laid(bits byte, parts ...api.Fe) []byte {
	var out []byte
	for _, a := range parts {
		out = append(out, limbs.Bytes(api.Word(a))...)
	}
	out[0] |= bits << 6
	return out
}

// shortOf and longOf are the two forms of a point, by the chapter's words.
func (f face[G]) shortOf(p G) []byte {
	l, infinite := f.parts(p)
	if infinite {
		return laid(1, l[:f.whole/2]...)
	}
	// Y's B stands ahead of its A: the bytes are in the roots' order.
	other, _ := f.parts(f.negative(p))
	if bytes.Compare(laid(0, l[f.whole/2:]...), laid(0, other[f.whole/2:]...)) < 0 {
		return laid(2, l[:f.whole/2]...)
	}
	return laid(3, l[:f.whole/2]...)
}

func (f face[G]) longOf(p G) []byte {
	l, infinite := f.parts(p)
	if infinite {
		return laid(1, l...)
	}
	return laid(0, l...)
}

// readOf is what the bytes stand for, by the chapter's words, one behind the other.
func (f face[G]) readOf(b []byte) (G, api.Errno) {
	var none G
	short := len(b) == f.whole/2*size
	if !short && len(b) != f.whole*size {
		return none, api.ErrCount
	}
	bits := b[0] >> 6
	bare := slices.Clone(b)
	bare[0] &= 0x3f
	switch {
	case short && bits == 0, !short && bits > 1, bits == 1 && !bytes.Equal(bare, make([]byte, len(b))):
		return none, api.ErrFlag
	case bits == 1:
		return f.infinity(), api.OK
	}
	var l []api.Fe
	for part := range slices.Chunk(bare, size) {
		l = append(l, element(new(big.Int).SetBytes(part)))
	}
	for _, a := range l {
		if number(a).Cmp(prime()) >= 0 {
			return none, api.ErrElement
		}
	}
	y := f.root(l[:f.whole/2])
	if y == nil {
		return none, api.ErrCurve
	}
	p := f.of(append(slices.Clone(l[:f.whole/2]), y...), false)
	if !bytes.Equal(f.shortOf(p), b) && !bytes.Equal(f.longOf(p), b) {
		p = f.negative(p)
	}
	if !short && !bytes.Equal(f.longOf(p), b) {
		return none, api.ErrCurve
	}
	if !f.in(p) {
		return none, api.ErrGroup
	}
	return p, api.OK
}

// mustRead tells whether the bytes are read as they must be.
func (f face[G]) mustRead(t *testing.T, b []byte) {
	t.Helper()
	want, wrong := f.readOf(b)
	if got, e := f.read(b); got != want || e != wrong {
		t.Errorf("Read%s of %x: %v, %d; but it is %v, %d", f.name, b, got, e, want, wrong)
	}
}

// mustRefuse tells whether the bytes are refused with that error, and nothing stands beside it.
func (f face[G]) mustRefuse(t *testing.T, b []byte, wrong api.Errno) {
	t.Helper()
	var none G
	if got, e := f.read(b); got != none || e != wrong {
		t.Errorf("Read%s of %d bytes, %.128x: %v, %d; but it is %d", f.name, len(b), b, got, e, wrong)
	}
}
