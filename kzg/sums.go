package kzg

import (
	"causeway/api"
	"causeway/curve"
	"causeway/limbs"
	"causeway/points"
)

// onCurve answers the error of the first point that may not be.
func onCurve(l ...api.G1) api.Errno {
	for _, p := range l {
		if e := points.Check1(p); e != api.OK {
			return e
		}
	}
	return api.OK
}

// multi answers the sum of the points, each times its number.
func multi(l []api.G1, n []api.Fe) api.G1 {
	numbers := make([]api.Word, len(n))
	for i, a := range n {
		numbers[i] = api.Word(a)
	}
	sum, _ := curve.Multi1(l, numbers)
	return sum
}

// terms are points with their numbers, on their way to one sum.
type terms struct {
	points  []api.G1
	numbers []api.Fe
}

// add takes one more.
func (t *terms) add(p api.G1, n api.Fe) {
	t.points = append(t.points, p)
	t.numbers = append(t.numbers, n)
}

// sum answers the sum of all, each point times its number.
func (t *terms) sum() api.G1 { return multi(t.points, t.numbers) }

// many multiples are so many that making the table for them takes less time than it saves.
const many = 512

// multiples answers the generator of G1 times each of the numbers.
func multiples(n []api.Fe) []api.G1 {
	of := byItself
	if len(n) >= many {
		of = tableOf(curve.Gen1()).times
	}
	l := make([]api.G1, len(n))
	for i, a := range n {
		l[i] = of(api.Word(a))
	}
	return l
}

// byItself answers the generator times n.
func byItself(n api.Word) api.G1 {
	p, _ := curve.Mul1(curve.Gen1(), n)
	return p
}

// table holds, for each byte of a number, the highest first, a point's multiples by all that may stand there.
type table [32][256]api.G1

// tableOf answers p's.
func tableOf(p api.G1) *table {
	t := new(table)
	for place := range t {
		row := &t[len(t)-1-place]
		row[0] = api.G1{Inf: true}
		for i := range len(row) - 1 {
			row[i+1], _ = curve.Add1(row[i], p)
		}
		p, _ = curve.Add1(row[len(row)-1], p)
	}
	return t
}

// times answers the point times n: the sum of one multiple a byte.
func (t *table) times(n api.Word) api.G1 {
	var parts [32]api.G1
	for i, digit := range limbs.Bytes(n) {
		parts[i] = t[i][digit]
	}
	sum, _ := curve.Sum1(parts[:])
	return sum
}
