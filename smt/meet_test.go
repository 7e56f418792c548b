package smt_test

import (
	"math/big"
	"slices"
	"testing"

	"causeway/api"
	"causeway/poseidon"
)

// By the least Rounds, unlike inputs of Two that meet can be reckoned: its answer is a polynomial of degree 5 in the fifth power of one of the two with its constant.

// polynomial is its coefficients, the lowest first, the last one not 0.
type polynomial []*big.Int

// modulo is the polynomial's rest by another, which is not 0.
func (p polynomial) modulo(by polynomial) polynomial {
	p = trimmed(p)
	for len(p) >= len(by) {
		lead := new(big.Int).ModInverse(by[len(by)-1], order())
		lead.Mul(lead, p[len(p)-1])
		for i, c := range by {
			at := len(p) - len(by) + i
			p[at] = new(big.Int).Sub(p[at], new(big.Int).Mul(lead, c))
		}
		p = trimmed(p)
	}
	return p
}

// trimmed is a copy modulo r, without the zeros behind.
func trimmed(p polynomial) polynomial {
	var l polynomial
	for _, c := range p {
		l = append(l, new(big.Int).Mod(c, order()))
	}
	for len(l) > 0 && l[len(l)-1].Sign() == 0 {
		l = l[:len(l)-1]
	}
	return l
}

// times is a product.
func (p polynomial) times(q polynomial) polynomial {
	l := make(polynomial, len(p)+len(q))
	for i := range l {
		l[i] = new(big.Int)
	}
	for i, a := range p {
		for j, b := range q {
			l[i+j].Add(l[i+j], new(big.Int).Mul(a, b))
		}
	}
	return trimmed(l)
}

// plus is a sum.
func (p polynomial) plus(q polynomial) polynomial {
	if len(p) < len(q) {
		p, q = q, p
	}
	l := slices.Clone(p)
	for i, c := range q {
		l[i] = new(big.Int).Add(p[i], c)
	}
	return trimmed(l)
}

// minus is a difference.
func (p polynomial) minus(q polynomial) polynomial {
	return p.plus(q.times(polynomial{big.NewInt(-1)}))
}

// power is the n-th one modulo another polynomial.
func (p polynomial) power(n *big.Int, by polynomial) polynomial {
	out := polynomial{big.NewInt(1)}
	for i := n.BitLen() - 1; i >= 0; i-- {
		out = out.times(out).modulo(by)
		if n.Bit(i) == 1 {
			out = out.times(p).modulo(by)
		}
	}
	return out
}

// common is the greatest polynomial that divides both.
func common(p, q polynomial) polynomial {
	for len(q) > 0 {
		p, q = q, p.modulo(q)
	}
	return p
}

// root is a place where the polynomial is 0; nil if there is none in Fr.
func (p polynomial) root() *big.Int {
	x := polynomial{new(big.Int), big.NewInt(1)}
	p = common(p, x.power(order(), p).minus(x))
	half := new(big.Int).Rsh(order(), 1)
	for shift := int64(1); len(p) > 2; shift++ {
		moved := polynomial{big.NewInt(shift), big.NewInt(1)}
		part := common(p, moved.power(half, p).minus(polynomial{big.NewInt(1)}))
		if len(part) > 1 && len(part) < len(p) {
			p = part
		}
	}
	if len(p) < 2 {
		return nil
	}
	at := new(big.Int).ModInverse(p[1], order())
	return at.Mod(at.Mul(at.Neg(at), p[0]), order())
}

// fifth is the fifth power of a number and its constant; fifthBack leads back.
func fifth(n, c *big.Int) *big.Int {
	return new(big.Int).Exp(new(big.Int).Add(n, c), big.NewInt(5), order())
}

func fifthBack(n, c *big.Int) *big.Int {
	by := new(big.Int).ModInverse(big.NewInt(5), new(big.Int).Sub(order(), big.NewInt(1)))
	return by.Mod(by.Sub(by.Exp(n, by, order()), c), order())
}

// partner is an element that, with the known one on its left or its right, makes that answer of Two, by few; false if there is none.
func partner(answer, known api.Fe, isLeft bool) (api.Fe, bool) {
	constants, _ := poseidon.Constants(few())
	matrix, _ := poseidon.Matrix(few())
	c := func(i int) *big.Int { return number(constants[i]) }
	m := func(i, j int) *big.Int { return number(matrix[3*i+j]) }
	place, other := 1, 2
	if !isLeft {
		place, other = 2, 1
	}
	sum := polynomial{new(big.Int).Neg(number(answer))}
	for i := range 3 {
		// What the second round takes to the fifth power, by the unknown's fifth power.
		start := new(big.Int).Add(c(3+i), new(big.Int).Mul(m(i, 0), fifth(new(big.Int), c(0))))
		start.Add(start, new(big.Int).Mul(m(i, place), fifth(number(known), c(place))))
		line := polynomial{start, m(i, other)}
		part := line.times(line)
		part = part.times(part).times(line).times(polynomial{m(1, i)})
		sum = sum.plus(part)
	}
	root := sum.root()
	if root == nil {
		return api.Fe{}, false
	}
	return element(fifthBack(root, c(other))), true
}

// otherPair are two elements, left and right, that make the answer of Two by few; the n-th such pair.
func otherPair(t *testing.T, answer api.Fe, n int) []api.Fe {
	t.Helper()
	for i := int64(1); ; i++ {
		left := whole(i)
		right, is := partner(answer, left, true)
		if !is {
			continue
		}
		if two(few(), left, right) != answer {
			t.Fatal("the test's own pair does not meet", answer, left, right)
		}
		if n--; n < 0 {
			return []api.Fe{left, right}
		}
	}
}

// met are the first two inputs of Two, on the ways up from two leaves, that are unlike and make one node.
func met(r api.Rounds, i uint64, leaves [2]api.Fe, paths [2][]api.Fe) (int, bool) {
	first, _ := climbed(r, i, leaves[0], paths[0])
	second, _ := climbed(r, i, leaves[1], paths[1])
	for height := range first {
		a, b := first[height], second[height]
		if a != b && two(r, a[0], a[1]) == two(r, b[0], b[1]) {
			return height, true
		}
	}
	return 0, false
}

// otherWay are another leaf and another path of it, by which the node of the height that stands above the two is the answer.
func otherWay(t *testing.T, i uint64, path []api.Fe, height int, answer api.Fe) (api.Fe, []api.Fe) {
	t.Helper()
	for n := int64(100); ; n++ {
		leaf, way := whole(n), slices.Clone(path)
		node := leaf
		if height > 0 {
			node = mustUp(t, few(), i%(1<<height), leaf, way[:height])
		}
		if beside, is := partner(answer, node, i>>height%2 == 0); is {
			way[height] = beside
			return leaf, way
		}
	}
}

// TestMeet: P13.4, where unlike leaves make one root, unlike inputs of Two meet on the way: put there at each height.
func TestMeet(t *testing.T) {
	s := source(137)
	const depth = 5
	for height := range depth {
		i, leaf, path := s.below(1<<depth), whole(3), s.list(depth)
		pairs, root := climbed(few(), i, leaf, path)
		other, way := otherWay(t, i, path, height, two(few(), pairs[height][0], pairs[height][1]))
		if again := mustUp(t, few(), i, other, way); again != root {
			t.Error("the roots are unlike", height, again, root)
		}
		mustCheck(t, few(), root, i, other, way, api.OK)
		if at, is := met(few(), i, [2]api.Fe{leaf, other}, [2][]api.Fe{path, way}); !is || at != height {
			t.Error("where they meet", at, is, height)
		}
	}
}

// TestNobodyMeets: P13.4, by Rounds enough, nobody knows unlike leaves that make one root.
func TestNobodyMeets(t *testing.T) {
	s := source(138)
	path := s.list(2)
	seen := map[api.Fe]api.Fe{}
	for i := range int64(40) {
		root := mustUp(t, usual(), 2, whole(i), path)
		if other, is := seen[root]; is {
			t.Error("one root", i, other)
		}
		seen[root] = whole(i)
	}
}

// TestLikeZeros: P13.1, leaves that are not 0 stay, though the node above them, by few, is the one over zeros: in whatever order they came, and with what comes behind them.
func TestLikeZeros(t *testing.T) {
	none := two(few(), api.Fe{}, api.Fe{})
	for _, depth := range []int{1, 3, 32} {
		last := uint64(1)<<depth - 1
		for n := range 4 {
			pair := otherPair(t, none, n/2)
			first, second := uint64(n%2), uint64(1-n%2)
			x, want := made(t, depth, few()), sparseOf(depth, few())
			put := func(i uint64, leaf api.Fe) {
				set(t, x, i, leaf)
				want.leaves[i] = leaf
				mustBe(t, "a pair like zeros", x, want, 0, 1, last)
				mustBe(t, "its copy", x.Copy(), want, 0, 1, last)
			}
			put(first, pair[first])
			put(second, pair[second])
			if x.Root() != made(t, depth, few()).Root() {
				t.Error("the root of a pair like zeros", depth, x.Root())
			}
			put(last, whole(4))
			put(0, whole(4))
			put(0, pair[0])
			put(1, api.Fe{})
			put(last, api.Fe{})
			put(0, api.Fe{})
		}
	}
}
