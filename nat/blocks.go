package nat

import (
	"math/bits"
	"strings"
)

// A number is computed with as a slice of blocks, each of which stands for
// width digits, the lowest block first. The highest block is not 0, so 0 has
// no blocks, unless a comment says that zeros may be on top.
const (
	width = 9
	base  = 1_000_000_000
)

// read returns the blocks of a number in decimal.
func read(a string) []uint64 {
	x := make([]uint64, (len(a)+width-1)/width)
	for i := range len(a) {
		at := (len(a) - 1 - i) / width
		x[at] = x[at]*10 + uint64(a[i]-'0')
	}
	return trim(x)
}

// write returns a number in decimal; there may be zeros on top.
func write(x []uint64) string {
	digits := make([]byte, len(x)*width)
	at := len(digits)
	for _, rest := range x {
		for range width {
			at--
			digits[at] = byte('0' + rest%10)
			rest /= 10
		}
	}
	a := strings.TrimLeft(string(digits), "0")
	if a == "" {
		return "0"
	}
	return a
}

// trim drops the zeros on top.
func trim(x []uint64) []uint64 {
	for len(x) > 0 && x[len(x)-1] == 0 {
		x = x[:len(x)-1]
	}
	return x
}

// block returns a block of a number, and 0 where it has none.
func block(x []uint64, i int) uint64 {
	if i < 0 || i >= len(x) {
		return 0
	}
	return x[i]
}

// combine replaces each block of x, from the lowest one on, by what step
// makes of it and the block of y at the same place.
func combine(x, y []uint64, step func(a, b uint64) uint64) {
	for i := range len(x) {
		x[i] = step(x[i], block(y, i))
	}
}

// addTimes adds f times y to x, within the blocks of x, and returns what is
// carried beyond them. f is at most base, so that no step overflows.
func addTimes(x, y []uint64, f uint64) (carry uint64) {
	combine(x, y, func(a, b uint64) uint64 {
		carry += a + f*b
		low := carry % base
		carry /= base
		return low
	})
	return carry
}

// subTimes subtracts f times y from x, within the blocks of x, and returns
// what is borrowed from beyond them. f is at most base here, too.
func subTimes(x, y []uint64, f uint64) (borrow uint64) {
	combine(x, y, func(a, b uint64) uint64 {
		borrow += f * b
		low := borrow % base
		borrow /= base
		if a < low {
			borrow++
			a += base
		}
		return a - low
	})
	return borrow
}

// sum may have a zero on top.
func sum(x, y []uint64) []uint64 {
	z := make([]uint64, max(len(x), len(y))+1)
	copy(z, x)
	addTimes(z, y, 1)
	return z
}

// product may have a zero on top.
func product(x, y []uint64) []uint64 {
	z := make([]uint64, len(x)+len(y))
	for i := range len(x) {
		addTimes(z[i:i+len(y)+1], y, x[i])
	}
	return z
}

// divide returns the quotient of x and y, which may have a zero on top, and
// the remainder; y is not 0. It uses the memory of x up.
func divide(x, y []uint64) (q, r []uint64) {
	if len(x) < len(y) {
		return nil, x
	}
	n := len(x) - len(y) + 1
	q = make([]uint64, n)
	x = append(x, 0)
	for i := range n {
		at := n - 1 - i
		part := x[at : at+len(y)+1]
		q[at] = guess(part, y)
		if subTimes(part, y, q[at]) > 0 {
			q[at]--
			addTimes(part, y, 1)
		}
	}
	return q, trim(x)
}

// guess returns how often y goes into x, or once more than that; x has one
// block more than y and is less than base times y. It looks at the highest
// three blocks of x and the highest two of y alone; if y has only one, a zero
// stands below both. The two of y are at least base, so what it leaves out
// makes no greater difference.
func guess(x, y []uint64) uint64 {
	top := len(x) - 1
	high, low := bits.Mul64(x[top]*base+x[top-1], base)
	low, carry := bits.Add64(low, block(x, top-2), 0)
	q, _ := bits.Div64(high+carry, low, y[len(y)-1]*base+block(y, len(y)-2))
	return q
}
