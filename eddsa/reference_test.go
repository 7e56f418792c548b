package eddsa_test

import (
	"math/big"
	"slices"

	"causeway/api"
	"causeway/poseidon"
)

// The chapter's words taken one by one, by numbers of any size.

// spot is a point by its X and Y.
type spot struct{ x, y *big.Int }

func (p spot) ed() api.Ed { return api.Ed{X: element(p.x), Y: element(p.y)} }

func spotOf(p api.Ed) spot { return spot{number(api.Word(p.X)), number(api.Word(p.Y))} }

func neutral() spot { return spot{whole(0), whole(1)} }

func base() spot {
	return spot{
		digits("5299619240641551281634865583518297030282874472190772894086521144482721001553"),
		digits("16950150798460657717958625567821834550301663161624707787222815936182638968203"),
	}
}

// generator is ERC-2494's one of the whole curve, whose order is 8 l.
func generator() spot {
	return spot{
		digits("995203441582195749578291179787384436505546430278305826713579947235728471134"),
		digits("5472060717959818805561601436314318772137091100104008585924551046643952123905"),
	}
}

// small are the curve's points whose orders divide 8, but the neutral one.
func small() []spot {
	p := generator().times(order())
	l := []spot{p}
	for range cofactor - 2 {
		l = append(l, l[len(l)-1].plus(p))
	}
	return l
}

// mod is the rest modulo r, rest the one modulo l.
func mod(n *big.Int) *big.Int { return new(big.Int).Mod(n, modulus()) }

func rest(n *big.Int) *big.Int { return new(big.Int).Mod(n, order()) }

// product is that of all, modulo r.
func product(l ...*big.Int) *big.Int {
	n := whole(1)
	for _, a := range l {
		n = mod(n.Mul(n, a))
	}
	return n
}

// over is a / b.
func over(a, b *big.Int) *big.Int {
	return product(a, new(big.Int).ModInverse(mod(b), modulus()))
}

// plus is the sum by the curve's law.
func (p spot) plus(q spot) spot {
	both := product(whole(168696), p.x, q.x, p.y, q.y)
	across := sum(product(p.x, q.y), product(p.y, q.x))
	along := minus(product(p.y, q.y), product(whole(168700), p.x, q.x))
	return spot{over(across, sum(whole(1), both)), over(along, minus(whole(1), both))}
}

func (p spot) negative() spot { return spot{mod(new(big.Int).Neg(p.x)), p.y} }

// times is n times the point, bit by bit.
func (p spot) times(n *big.Int) spot {
	sum := neutral()
	for i := n.BitLen() - 1; i >= 0; i-- {
		sum = sum.plus(sum)
		if n.Bit(i) == 1 {
			sum = sum.plus(p)
		}
	}
	return sum
}

// bytes are the point's 32.
func (p spot) bytes() []byte {
	b := p.y.FillBytes(make([]byte, size))
	slices.Reverse(b)
	if p.x.Cmp(new(big.Int).Rsh(modulus(), 1)) > 0 {
		b[31] += 128
	}
	return b
}

// elements are those of a message: how many bytes there are, then 31 by 31 as a number.
func elements(message []byte) []api.Fe {
	l := []api.Fe{{uint64(len(message))}}
	for len(message) > 31 {
		l = append(l, element(new(big.Int).SetBytes(message[:31])))
		message = message[31:]
	}
	if len(message) > 0 {
		l = append(l, element(new(big.Int).SetBytes(message)))
	}
	return l
}

// digest is H of numbers and a message's elements, hash the same modulo l.
func digest(message []byte, ahead ...*big.Int) *big.Int {
	var l []api.Fe
	for _, n := range ahead {
		l = append(l, element(n))
	}
	d, _ := poseidon.Hash(api.Rounds{Width: 3, Full: 8, Partial: 57}, slices.Concat(l, elements(message)))
	return number(api.Word(d))
}

func hash(message []byte, ahead ...*big.Int) *big.Int { return rest(digest(message, ahead...)) }

func challenge(r, key spot, message []byte) *big.Int {
	return hash(message, r.x, r.y, key.x, key.y)
}

// sign is the signature by a secret whose key is the second.
func sign(secret *big.Int, key spot, message []byte) api.Signature {
	return signWith(hash(message, secret), secret, key, message)
}

// signWith is the one with that nonce.
func signWith(k *big.Int, secret *big.Int, key spot, message []byte) api.Signature {
	r := base().times(k)
	h := challenge(r, key, message)
	return api.Signature{R: r.ed(), S: word(rest(sum(k, new(big.Int).Mul(h, secret))))}
}

// holds: does the equation hold?
func holds(key spot, message []byte, s api.Signature) bool {
	r := spotOf(s.R)
	right := r.plus(key.times(challenge(r, key, message)))
	return base().times(number(s.S)).ed() == right.ed()
}
