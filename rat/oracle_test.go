package rat_test

import (
	"math/big"
	"math/rand/v2"
	"strings"
	"testing"

	"abugida/api"
)

// of returns what a canonical form stands for.
func of(t *testing.T, a string) *big.Rat {
	t.Helper()
	x, ok := new(big.Rat).SetString(a)
	if !ok {
		t.Fatalf("%q is not a rational number", a)
	}
	return x
}

// written returns the canonical form of a number, or the error for one that is too long.
func written(x *big.Rat) (a string, e api.Errno) {
	num := new(big.Int).Abs(x.Num()).String()
	if max(len(num), len(x.Denom().String())) > 400 {
		return "", api.ErrLong
	}
	return x.RatString(), api.OK
}

// long is a digit and zeros behind it: digits digits in all.
func long(digits int) string {
	return "1" + zeros(digits-1)
}

func zeros(digits int) string {
	return strings.Repeat("0", digits)
}

// nines is the greatest natural number of so many digits.
func nines(digits int) string {
	return strings.Repeat("9", digits)
}

// wrong are strings that are not rational numbers.
func wrong() []string {
	return []string{
		"", "-", "/", "-/", "1/", "/2", "-1/", "-/2", "1//2", "1/2/3", "1/2/", "/1/2",
		"6/2", "3/1", "-3/1", "0/1", "0/2", "-0", "-0/1", "-0/5", "2/4", "-2/4", "6/4", "10/15", "1/1", "-7/7",
		"1/0", "0/0", "-1/0", "1/-2", "-1/-2", "--1", "1-", "+1", "+1/2", "1/+2", "-+1",
		"00", "007", "01/2", "1/02", "-01", "1/00", "-00",
		"0.5", "1.0", ".5", "1e3", "1_000", "0x1", "inf", "-inf", "a", "1a", "a/2", "1/a", " 1", "1 ", "1 /2", "1/ 2", "- 1", "1\n", "1/2\n", "1\x00",
		"\xff", "1/\xb2", "\u0661", "\uff11", "\u2212" + "1", "1\u20442",
		long(401), "-" + long(401), "1/" + long(401), nines(401) + "/7", long(401) + "/" + nines(401), nines(1000), "1/" + nines(1000), long(1001), nines(2000) + "/" + long(2000),
		nines(400) + "/" + nines(400), long(400) + "/" + long(399), zeros(400), strings.Repeat("1", 1<<16), strings.Repeat("-", 1<<16), strings.Repeat("/", 1<<16),
	}
}

// series makes numbers that look irregular, always the same ones.
type series struct{ *rand.Rand }

func newSeries(seed uint64) series {
	return series{rand.New(rand.NewPCG(seed, seed))}
}

// natural returns a natural number of so many digits that is greater than 0.
func (s series) natural(digits int) string {
	b := make([]byte, digits)
	for i := range b {
		b[i] = byte('0' + s.IntN(10))
	}
	if b[0] == '0' {
		b[0] = byte('1' + s.IntN(9))
	}
	return string(b)
}

// number returns a rational number whose parts have at most so many digits.
func (s series) number(digits int) string {
	num, den := s.natural(1+s.IntN(digits)), s.natural(1+s.IntN(digits))
	x, _ := new(big.Rat).SetString(num + "/" + den)
	if s.IntN(2) == 0 {
		x.Neg(x)
	}
	return x.RatString()
}

// samples are rational numbers of all kinds: small ones, those with the
// longest parts, and irregular ones.
func samples() []string {
	l := []string{
		"0", "1", "2", "3", "10", "1/2", "1/3", "2/3", "3/2", "3/4", "5/6", "7/10", "1/6", "12/35", "35/12", "999999999/1000000000", "1000000000/999999999", "18446744073709551616/3",
		long(400), nines(400), long(399), nines(200), long(200), long(201), "1/" + long(400), "1/" + nines(400), "1/" + nines(200), "1/" + long(201),
		nines(400) + "/" + long(400), long(400) + "/" + nines(400), nines(399) + "/" + nines(400)[:399] + "8", nines(200) + "/" + long(200), "2/" + nines(399),
	}
	s := newSeries(1)
	for _, digits := range []int{1, 2, 3, 9, 18, 30, 100, 199, 200, 201, 400} {
		l = append(l, s.number(digits))
	}
	for _, a := range l[1:] {
		if negative, ok := strings.CutPrefix(a, "-"); ok {
			l = append(l, negative)
		} else {
			l = append(l, "-"+a)
		}
	}
	return l
}

// eachPair visits all pairs of samples, and pairs of irregular numbers of any lengths.
func eachPair(visit func(a, b string)) {
	l := samples()
	for _, a := range l {
		for _, b := range l {
			visit(a, b)
		}
	}
	s := newSeries(2)
	for range 5000 {
		visit(s.number(1), s.number(2))
		visit(s.number(12), s.number(12))
	}
	for range 200 {
		visit(s.number(400), s.number(400))
	}
}

// eachString visits all strings of at most most of the bytes.
func eachString(bytes string, most int, visit func(s string)) {
	visit("")
	if most > 0 {
		for i := range len(bytes) {
			eachString(bytes, most-1, func(s string) {
				visit(bytes[i:i+1] + s)
			})
		}
	}
}
