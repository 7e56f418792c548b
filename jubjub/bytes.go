package jubjub

import (
	"slices"

	"causeway/api"
	"causeway/field"
)

const (
	size     = 32
	lastByte = size - 1
	// highX stands in the last byte's highest bit, which no Y needs, as r has 254 bits.
	highX = 0x80
)

// Bytes answers 32 bytes: Y, the lowest byte first, and which of its two X it is; Check's error.
func Bytes(p api.Ed) ([]byte, api.Errno) {
	if e := Check(p); e != api.OK {
		return nil, e
	}
	b, _ := field.Bytes(api.FieldR, p.Y)
	slices.Reverse(b)
	if !isLower(p.X) {
		b[lastByte] |= highX
	}
	return b, api.OK
}

// Read answers the point of 32 bytes: ErrCount if they are not 32, ErrElement if Y is not below r, ErrCurve if no point has that Y, ErrFlag if the bit tells the higher X where X is 0, ErrPoint if the point is not of the group.
func Read(b []byte) (api.Ed, api.Errno) {
	y, high, e := taken(b)
	if e != api.OK {
		return api.Ed{}, e
	}
	p, e := withY(y, high)
	if e != api.OK {
		return api.Ed{}, e
	}
	if e := Check(p); e != api.OK {
		return api.Ed{}, e
	}
	return p, api.OK
}

// taken answers Y and whether the bit is set.
func taken(b []byte) (api.Fe, bool, api.Errno) {
	if len(b) != size {
		return api.Fe{}, false, api.ErrCount
	}
	high := b[lastByte] >= highX
	highestFirst := slices.Clone(b)
	highestFirst[lastByte] %= highX
	slices.Reverse(highestFirst)
	y, e := field.Read(api.FieldR, highestFirst)
	return y, high, e
}

// withY answers the point of the curve with that Y, and with the lower or the higher one of its X.
func withY(y api.Fe, high bool) (api.Ed, api.Errno) {
	square := squared(y)
	x, e := field.Sqrt(api.FieldR, over(minus(field.Of(1), square), minus(field.Of(factorA), timesD(square))))
	switch {
	case e != api.OK:
		return api.Ed{}, api.ErrCurve
	case high && x == api.Fe{}:
		return api.Ed{}, api.ErrFlag
	case high:
		x = negative(x)
	}
	return api.Ed{X: x, Y: y}, api.OK
}
