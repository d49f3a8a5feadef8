package nat_test

import (
	"math/big"
	"testing"

	"abugida/api"
	"abugida/nat"
)

// P2.3: numbers that have certain quotients, one after the other, until they
// leave no remainder: small ones, which are the most and the hardest to foresee,
// and those around one and two blocks.
func TestGcdQuotients(t *testing.T) {
	for _, quotients := range [][]string{
		{"1"},
		{"2"},
		{"1", "2"},
		{"1", "1", "1", "999999998"},
		{"1", "999999999"},
		{"1", "1000000000", "1"},
		{"1000000001", "2"},
		{"31622776", "31622777"},
		{"999999999999999998", "1", "1"},
		{"999999999999999999"},
		{"1000000000000000000", "1"},
		{"1000000000000000001"},
		{"1", "1", "2", "1", long(40)},
		{nines(300), "1", "1", "1", "3"},
	} {
		for _, c := range []string{"1", "7", "999999999", "1000000000", long(19), nines(40)} {
			checkQuotients(t, quotients, c)
		}
	}
}

// checkQuotients goes back from the greatest common divisor c and 0.
func checkQuotients(t *testing.T, quotients []string, c string) {
	t.Helper()
	x, y := of(t, c), new(big.Int)
	for i := 0; len(x.String()) <= 1000; i++ {
		if i < 100 || i%23 == 0 {
			a, b := x.String(), y.String()
			d, e := nat.Gcd(a, b)
			f, g := nat.Gcd(b, a)
			if d != c || f != c || e != api.OK || g != api.OK {
				t.Fatalf("Gcd(%s, %s) = %s, %v and %s, %v, not %s", a, b, d, e, f, g, c)
			}
		}
		q := of(t, quotients[i%len(quotients)])
		x, y = y.Add(y, q.Mul(q, x)), x
	}
}
