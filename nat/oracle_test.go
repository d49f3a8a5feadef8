package nat_test

import (
	"math/big"
	"strings"
	"testing"
)

// of returns what a number stands for.
func of(t *testing.T, a string) *big.Int {
	t.Helper()
	n, ok := new(big.Int).SetString(a, 10)
	if !ok {
		t.Fatalf("%q is not a number", a)
	}
	return n
}

// long is a digit and zeros behind it: digits digits in all.
func long(digits int) string {
	return "1" + strings.Repeat("0", digits-1)
}

// nines is the greatest number of so many digits.
func nines(digits int) string {
	return strings.Repeat("9", digits)
}

// wrong are strings that are not numbers.
func wrong() []string {
	return []string{
		"", "00", "007", "01", "-1", "-0", "+1", "a", "1a", "a1", "1 ", " 1", "1\n", "1\x00", "1.0", "1e3", "1_000", "0x1", "1/2",
		"/", ":", "1/", "1:", "\xff", "1\xb1", "\u0661", "1\u0661", "\uff11",
		"0" + nines(20), nines(20) + "x" + nines(20),
		long(1001), nines(1001), nines(1009), long(2000), "0" + nines(1000), strings.Repeat("0", 1000), strings.Repeat("1", 1<<20),
	}
}

// series makes numbers that look irregular, always the same ones.
type series struct{ state uint64 }

func (s *series) below(n int) int {
	s.state = s.state*6364136223846793005 + 1442695040888963407
	return int(s.state>>33) % n
}

// number returns a number of so many digits; some have long runs of 0 and 9.
func (s *series) number(digits int) string {
	b := make([]byte, digits)
	kind := s.below(3)
	for i := range b {
		switch {
		case kind == 0 || s.below(20) == 0:
			b[i] = byte('0' + s.below(10))
		case i > 0 && s.below(30) > 0:
			b[i] = b[i-1]
		default:
			b[i] = "09"[s.below(2)]
		}
	}
	if b[0] == '0' {
		b[0] = byte('1' + s.below(9))
	}
	return string(b)
}

// samples are numbers of all lengths: small ones, those at the edges of
// blocks of nine digits and of machine words, the greatest ones, and irregular ones.
func samples() []string {
	l := []string{"0", "1", "2", "3", "7", "10", "12", "97", "360", "1001", "4294967295", "4294967296", "9223372036854775807", "9223372036854775808", "18446744073709551615", "18446744073709551616", "1000000000000000003", "999999999000000000", "1000000000999999999", "1000000000000000000999999999"}
	for _, digits := range []int{9, 10, 18, 19, 27, 28, 100, 500, 501, 999, 1000} {
		l = append(l, nines(digits), long(digits), long(digits)[:digits-1]+"1", nines(digits)[:digits-1]+"8")
	}
	s := &series{1}
	for _, digits := range []int{5, 8, 9, 10, 17, 18, 19, 26, 27, 28, 36, 37, 45, 90, 200, 400, 491, 500, 501, 800, 991, 1000} {
		l = append(l, s.number(digits))
	}
	return l
}

// eachPair visits all pairs of samples, and pairs of irregular numbers of any lengths.
func eachPair(visit func(a, b string)) {
	l := samples()
	for _, a := range l {
		for _, b := range l {
			visit(a, b)
		}
	}
	s := &series{2}
	for range 2000 {
		visit(s.number(1+s.below(60)), s.number(1+s.below(60)))
	}
	for range 200 {
		visit(s.number(1+s.below(1000)), s.number(1+s.below(1000)))
	}
}
