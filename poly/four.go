package poly

import "causeway/api"

// mostWhole is the highest number, above 0 and below, that Four takes: all that it reckons are whole numbers of few enough bits to be exact.
const mostWhole int64 = 1 << 40

// Four answers the real and the imaginary parts of the transform of four whole numbers over the four complex roots of one; ErrRange if one of them is not from -2^40 to 2^40.
func Four(x [4]int) ([4]int, [4]int, api.Errno) {
	for _, n := range x {
		if int64(n) < -mostWhole || int64(n) > mostWhole {
			return [4]int{}, [4]int{}, api.ErrRange
		}
	}
	turns := [4]complex128{1, -1i, -1, 1i} // the powers of -i
	var re, im [4]int
	for j := range turns {
		var sum complex128
		for k, n := range x {
			sum += complex(float64(n), 0) * turns[j*k%len(turns)]
		}
		re[j], im[j] = int(real(sum)), int(imag(sum))
	}
	return re, im, api.OK
}
