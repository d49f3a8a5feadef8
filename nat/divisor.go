package nat

// divisor returns the greatest common divisor. It uses the memory of x and y up.
//
// It goes through the remainders of Euclid's algorithm. While they are long, it
// goes on by several divisions at once, as Lehmer found.
func divisor(x, y []uint64) []uint64 {
	for len(y) > 0 && max(len(x), len(y)) > 2 {
		x, y = later(x, y)
	}
	if len(y) == 0 {
		return x
	}
	a, b := top(x, 2), top(y, 2)
	for b > 0 {
		a, b = b, a%b
	}
	return trim([]uint64{a % base, a / base})
}

// later returns two numbers that come after x and y in Euclid's algorithm.
func later(x, y []uint64) (p, q []uint64) {
	var s steps
	if len(x) >= len(y) {
		s = foresee(top(x, len(x)), top(y, len(x)))
	}
	switch {
	case s.c == 0:
		_, r := divide(x, y)
		return y, r
	case s.swap:
		return difference(y, s.c, x, s.a), difference(x, s.b, y, s.d)
	}
	return difference(x, s.a, y, s.c), difference(y, s.d, x, s.b)
}

// top returns the two blocks below a place of a number.
func top(x []uint64, place int) uint64 {
	return block(x, place-1)*base + block(x, place-2)
}

// difference returns f times x minus g times y, if that is neither negative nor
// longer than both.
func difference(x []uint64, f uint64, y []uint64, g uint64) []uint64 {
	z := make([]uint64, max(len(x), len(y)))
	carry := int64(0)
	for i := range len(z) {
		carry += int64(f*block(x, i)) - int64(g*block(y, i))
		low := carry % base
		carry /= base
		if low < 0 {
			low += base
			carry--
		}
		z[i] = uint64(low)
	}
	return trim(z)
}

// steps stand for several divisions, which replace x and y by a*x - c*y and
// d*y - b*x or, with swap, by c*y - a*x and b*x - d*y.
type steps struct {
	a, b, c, d uint64
	swap       bool
}

// foresee returns divisions that two numbers begin with, as far as their highest
// two blocks x and y tell them whatever is below. If there are none, c is 0. No
// factor is greater than base.
func foresee(x, y uint64) (s steps) {
	s = steps{b: 1, swap: true}
	// The last quotient that is found is not sure; e and f are the factors with it.
	var e, f uint64 = 0, 1
	for y >= f && x >= y+s.d+f {
		q := x / y
		x, y = y, x%y
		s.a, s.b, e = s.b, e, s.b+q*e
		s.c, s.d, f = s.d, f, s.d+q*f
		s.swap = !s.swap
	}
	return s
}
