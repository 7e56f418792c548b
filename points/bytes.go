package points

import (
	"causeway/api"
	"causeway/limbs"
)

// mark is the two highest bits of X's highest byte, which no X needs, as p has 254 bits.
type mark byte

const (
	both     mark = iota // X and Y stand there
	infinity             // and all else is 0
	lower                // X stands there, and Y is the lower one of its two roots
	higher               // likewise the higher one
)

const (
	size      = 32 // bytes of an element
	markBits  = 2
	markShift = 8 - markBits
)

// tellsRoot: does it stand for Y?
func (m mark) tellsRoot() bool { return m == lower || m == higher }

// shortMark answers the mark of a point whose Y is left out.
func shortMark(isInfinity bool, isLower bool) mark {
	switch {
	case isInfinity:
		return infinity
	case isLower:
		return lower
	}
	return higher
}

// longMark answers the mark of a point whose Y stands there.
func longMark(isInfinity bool) mark {
	if isInfinity {
		return infinity
	}
	return both
}

// laid answers the elements' bytes, one behind the other, and the mark in the first one.
func laid(m mark, elements ...api.Fe) []byte {
	var out []byte
	for _, a := range elements {
		out = append(out, limbs.Bytes(api.Word(a))...)
	}
	out[0] |= byte(m) << markShift
	return out
}

// taken answers the mark and the parts of X and Y, so many of each, in the order in which they stand; all 0 of a Y that is left out. What else may be wrong is the point's to be refused for: an infinity that is not all 0 and parts that are not below p come out as they stand.
func taken(b []byte, parts int) (mark, []api.Fe, api.Errno) {
	short, long := parts*size, 2*parts*size
	if len(b) != short && len(b) != long {
		return 0, nil, api.ErrCount
	}
	m := mark(b[0] >> markShift)
	if len(b) == short && m == both || len(b) == long && m.tellsRoot() {
		return 0, nil, api.ErrFlag
	}
	elements := make([]api.Fe, 2*parts)
	for i := range len(b) / size {
		word, _ := limbs.Read(b[i*size : (i+1)*size])
		elements[i] = api.Fe(word)
	}
	highest := &elements[0][3]
	*highest = *highest << markBits >> markBits
	return m, elements, api.OK
}
