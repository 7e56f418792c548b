package poseidon_test

import (
	"fmt"
	"math/big"
	"slices"
	"strings"

	"causeway/api"
)

// The chapter's words taken one by one, in numbers of any size.

// grain is the stream of some Rounds, a bit an element.
type grain struct{ bits []byte }

func grainOf(r api.Rounds) *grain {
	text := "01" + "0000" + fmt.Sprintf("%012b%012b%010b%010b", 254, r.Width, r.Full, r.Partial) + strings.Repeat("1", 30)
	g := &grain{}
	for _, digit := range text {
		g.bits = append(g.bits, byte(digit-'0'))
	}
	if len(g.bits) != 80 {
		panic("the stream has not 80 bits")
	}
	for range 160 {
		g.bit()
	}
	return g
}

// bit is the next new bit.
func (g *grain) bit() byte {
	b := g.bits
	next := (b[62] + b[51] + b[38] + b[23] + b[13] + b[0]) % 2
	g.bits = append(b[1:], next)
	return next
}

// given is the next given bit.
func (g *grain) given() byte {
	for {
		first, second := g.bit(), g.bit()
		if first == 1 {
			return second
		}
	}
}

// constant is the next constant, and how many were left out ahead of it.
func (g *grain) constant() (*big.Int, int) {
	for out := 0; ; out++ {
		text := make([]byte, 254)
		for i := range text {
			text[i] = '0' + g.given()
		}
		n, _ := new(big.Int).SetString(string(text), 2)
		if n.Cmp(order()) < 0 {
			return n, out
		}
	}
}

func refConstants(r api.Rounds) []*big.Int {
	g := grainOf(r)
	var l []*big.Int
	for range r.Width * (r.Full + r.Partial) {
		n, _ := g.constant()
		l = append(l, n)
	}
	return l
}

// refMatrix is the matrix, by rows.
func refMatrix(width int) [][]*big.Int {
	var rows [][]*big.Int
	for i := range width {
		var row []*big.Int
		for j := range width {
			row = append(row, new(big.Int).ModInverse(big.NewInt(int64(i+width+j)), order()))
		}
		rows = append(rows, row)
	}
	return rows
}

// reference is the permutation of some Rounds.
type reference struct {
	rounds    api.Rounds
	constants []*big.Int
	matrix    [][]*big.Int
}

func referenceOf(r api.Rounds) reference {
	return reference{r, refConstants(r), refMatrix(r.Width)}
}

// applied is the matrix times the list.
func applied(matrix [][]*big.Int, l []*big.Int) []*big.Int {
	var out []*big.Int
	for _, row := range matrix {
		sum := new(big.Int)
		for j, n := range row {
			sum.Add(sum, new(big.Int).Mul(n, l[j]))
		}
		out = append(out, sum.Mod(sum, order()))
	}
	return out
}

// raises: does the round take the i-th element to the fifth power?
func (p reference) raises(round, i int) bool {
	full := round < p.rounds.Full/2 || round >= p.rounds.Full/2+p.rounds.Partial
	return full || i == 0
}

func (p reference) permuted(state []*big.Int) []*big.Int {
	for round := range p.rounds.Full + p.rounds.Partial {
		var l []*big.Int
		for i, n := range state {
			n = new(big.Int).Add(n, p.constants[round*p.rounds.Width+i])
			if p.raises(round, i) {
				n.Exp(n, big.NewInt(5), order())
			}
			l = append(l, n)
		}
		state = applied(p.matrix, l)
	}
	return state
}

// back leads from what the permutation answers to what it was given.
func (p reference) back(state []*big.Int) []*big.Int {
	less := new(big.Int).Sub(order(), big.NewInt(1))
	root := new(big.Int).ModInverse(big.NewInt(5), less)
	matrix := inverted(p.matrix)
	for round := p.rounds.Full + p.rounds.Partial - 1; round >= 0; round-- {
		state = applied(matrix, state)
		for i, n := range state {
			if p.raises(round, i) {
				n.Exp(n, root, order())
			}
			n.Sub(n, p.constants[round*p.rounds.Width+i]).Mod(n, order())
		}
	}
	return state
}

func (p reference) hash(l []*big.Int) *big.Int {
	width := p.rounds.Width
	state := []*big.Int{big.NewInt(int64(len(l)))}
	for range width - 1 {
		state = append(state, new(big.Int))
	}
	if len(l) == 0 {
		return p.permuted(state)[1]
	}
	for part := range slices.Chunk(l, width-1) {
		for i, n := range part {
			state[i+1] = new(big.Int).Add(state[i+1], n)
		}
		state = p.permuted(state)
	}
	return state[1]
}

// inverted is the matrix's inverse; nil if it has none.
func inverted(matrix [][]*big.Int) [][]*big.Int {
	var rows [][]*big.Int
	for i, row := range matrix {
		long := slices.Clone(row)
		for j := range matrix {
			one := big.NewInt(0)
			if i == j {
				one.SetInt64(1)
			}
			long = append(long, one)
		}
		rows = append(rows, long)
	}
	for i := range rows {
		pivot := slices.IndexFunc(rows[i:], func(row []*big.Int) bool { return row[i].Sign() != 0 })
		if pivot < 0 {
			return nil
		}
		rows[i], rows[i+pivot] = rows[i+pivot], rows[i]
		by := new(big.Int).ModInverse(rows[i][i], order())
		rows[i] = mapped(rows[i], func(j int, n *big.Int) *big.Int { return n.Mul(n, by) })
		for k, row := range rows {
			if k != i {
				times := row[i]
				rows[k] = mapped(row, func(j int, n *big.Int) *big.Int {
					return n.Sub(n, new(big.Int).Mul(times, rows[i][j]))
				})
			}
		}
	}
	for i := range rows {
		rows[i] = rows[i][len(matrix):]
	}
	return rows
}

// mapped is what of makes, modulo r, of each number's copy.
func mapped(l []*big.Int, of func(i int, n *big.Int) *big.Int) []*big.Int {
	var out []*big.Int
	for i, n := range l {
		n = of(i, new(big.Int).Set(n))
		out = append(out, n.Mod(n, order()))
	}
	return out
}
