package curve

import (
	"math/bits"

	"causeway/api"
)

const (
	// many points are so many that buckets take less time than tables.
	many = 32

	tableWidth = 4
	mostWidth  = 11
)

// multiples answers the sum of the points, each times its number.
func multiples[E element[E]](l []point[E], n []api.Word) point[E] {
	if len(l) < many {
		return byTables(l, n)
	}
	return byBuckets(l, n)
}

// overPlaces answers the sum, over the digits' places, of what of answers at each, times the place's power of 2.
func overPlaces[E element[E]](d digits, of func(place int) point[E]) point[E] {
	var sum point[E]
	places := d.places()
	for i := range places {
		for range d.width {
			sum = sum.doubled()
		}
		sum = sum.plus(of(places - 1 - i))
	}
	return sum
}

// table holds a point's multiples, by 1 and on.
type table[E element[E]] [1 << (tableWidth - 1)]point[E]

// tableOf answers p's.
func tableOf[E element[E]](p point[E]) table[E] {
	var t table[E]
	var sum point[E]
	for i := range t {
		sum = sum.plus(p)
		t[i] = sum
	}
	return t
}

// times answers the multiple by a digit.
func (t *table[E]) times(digit int) point[E] {
	switch {
	case digit > 0:
		return t[digit-1]
	case digit < 0:
		return t[-digit-1].negative()
	}
	return point[E]{}
}

// byTables answers the sum of the points, each times its number, by a table of each point's multiples.
func byTables[E element[E]](l []point[E], n []api.Word) point[E] {
	tables := make([]table[E], len(l))
	for i, p := range l {
		tables[i] = tableOf(p)
	}
	d := digits{n, tableWidth}
	return overPlaces(d, func(place int) point[E] {
		var sum point[E]
		for i := range tables {
			sum = sum.plus(tables[i].times(d.at(i, place)))
		}
		return sum
	})
}

// byBuckets answers the sum of the points, each times its number: at each place a point goes into the bucket of its digit.
func byBuckets[E element[E]](l []point[E], n []api.Word) point[E] {
	d := digits{n, widthFor(len(l))}
	var all [1 << (mostWidth - 1)]point[E]
	buckets := all[:1<<(d.width-1)]
	return overPlaces(d, func(place int) point[E] {
		clear(buckets)
		for i, p := range l {
			digit := d.at(i, place)
			switch {
			case digit > 0:
				buckets[digit-1] = buckets[digit-1].plus(p)
			case digit < 0:
				buckets[-digit-1] = buckets[-digit-1].plus(p.negative())
			}
		}
		return weighed(buckets)
	})
}

// widthFor answers at which width so many points take the least time: the wider, the fewer places, and the more buckets at each.
func widthFor(points int) int {
	return min((2*bits.Len(uint(points))+1)/3, mostWidth)
}

// weighed answers the first bucket's sum, twice the second's, thrice the third's and so on: what is gathered from the last one on is added once more at each.
func weighed[E element[E]](buckets []point[E]) point[E] {
	var gathered, sum point[E]
	for i := range len(buckets) {
		gathered = gathered.plus(buckets[len(buckets)-1-i])
		sum = sum.plus(gathered)
	}
	return sum
}
