package poly_test

import (
	"math"
	"testing"

	"causeway/api"
	"causeway/poly"
)

// limit is the highest number that Four takes.
func limit() int {
	n := 1
	for range 40 {
		n *= 2
	}
	return n
}

// four is the transform in whole numbers: at j the k-th one is turned by -i, j k times.
func four(x [4]int) ([4]int, [4]int) {
	var re, im [4]int
	for j := range 4 {
		for k, n := range x {
			switch j * k % 4 {
			case 0:
				re[j] += n
			case 1:
				im[j] -= n
			case 2:
				re[j] -= n
			case 3:
				im[j] += n
			}
		}
	}
	return re, im
}

// TestFour: P7.4, exactly, up to the limit.
func TestFour(t *testing.T) {
	check := func(x [4]int) {
		t.Helper()
		wantRe, wantIm := four(x)
		if re, im, e := poly.Four(x); re != wantRe || im != wantIm || e != api.OK {
			t.Fatal("Four", x, re, im, e)
		}
	}
	check([4]int{1, 2, 3, 4})
	edges := []int{0, 1, -1, limit() - 1, limit(), -limit() + 1, -limit()}
	for _, a := range edges {
		for _, b := range edges {
			for _, c := range edges {
				for _, d := range edges {
					check([4]int{a, b, c, d})
				}
			}
		}
	}
	s := source(51)
	for range 1000 {
		var x [4]int
		for k := range x {
			x[k] = int(s.word()%uint64(2*limit()+1)) - limit()
		}
		check(x)
	}
	re, im, e := poly.Four([4]int{1, 2, 3, 4})
	if re != [4]int{10, -2, -2, -2} || im != [4]int{0, 2, 0, -2} || e != api.OK {
		t.Error("example 2", re, im, e)
	}
}

// TestFourRefused: P7.4, one of the four is out of the range.
func TestFourRefused(t *testing.T) {
	for _, bad := range []int{limit() + 1, -limit() - 1, 2 * limit(), math.MaxInt, math.MinInt, math.MinInt + 1} {
		for k := range 4 {
			x := [4]int{1, 2, 3, 4}
			x[k] = bad
			if re, im, e := poly.Four(x); re != [4]int{} || im != [4]int{} || e != api.ErrRange {
				t.Error("Four", x, re, im, e)
			}
		}
	}
}
