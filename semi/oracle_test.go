package semi_test

import (
	"math/big"
	"math/rand/v2"
	"slices"
	"strings"

	"abugida/api"
	"abugida/semi"
)

var kinds = []int{api.Tropical, api.Probability, api.Viterbi}

// otherKinds are numbers that are no kinds.
var otherKinds = []int{0, -1, 4, 5, -3, 1 << 8, 1<<8 + 1, 1<<32 + 1, 1<<63 - 1, -1 << 63}

// long is a digit and zeros behind it: digits digits in all.
func long(digits int) string {
	return "1" + strings.Repeat("0", digits-1)
}

// nines is the greatest natural number of so many digits.
func nines(digits int) string {
	return strings.Repeat("9", digits)
}

// wrong are strings that are values of no kind.
func wrong() []string {
	return []string{
		"", "-", "+inf", "--inf", "Inf", "INF", "-Inf", "inf ", " inf", "-inf ", "infinity", "in", "inf/2", "1/inf", "-1/inf", "0/inf", "nan", "NaN", "inf\x00", "\u221e", "-\u221e",
		"2/4", "-2/4", "3/1", "0/1", "0/5", "-0", "1/0", "-1/0", "0/0", "01", "-01", "1/02", "+1", "0.5", "1.0", ".5", "1e3", "1/2/3", "1/", "/2", "1/-2", " 1", "1 ", "1\n", "a", "\xff", "\u0661", "\u22121",
		long(401), "-" + long(401), "1/" + long(401), nines(401) + "/7", "-" + nines(401) + "/7", nines(1000), long(1001), strings.Repeat("1", 1<<16), strings.Repeat("-", 1<<16),
	}
}

// positives are rational numbers greater than 0: small ones, those with the
// longest parts, and irregular ones.
func positives() []string {
	l := []string{
		"1", "2", "3", "10", "1/2", "1/3", "2/3", "3/2", "3/4", "5/6", "7/10", "12/35", "35/12", "999999999/1000000000", "1000000000/999999999", "18446744073709551616/3",
		long(400), nines(400), nines(200), long(200), long(201), "1/" + long(400), "1/" + nines(400), "1/" + nines(200), "1/" + long(201),
		nines(400) + "/" + long(400), long(400) + "/" + nines(400), "1" + nines(200) + "/" + long(200), "2/" + nines(399),
	}
	s := rand.New(rand.NewPCG(1, 1))
	for _, digits := range []int{1, 2, 9, 18, 30, 100, 200, 400} {
		l = append(l, fraction(s, digits))
	}
	return l
}

// fraction returns a rational number greater than 0, whose parts have at most
// so many digits.
func fraction(s *rand.Rand, digits int) string {
	var parts [2]string
	for i := range parts {
		parts[i] = string(rune('1' + s.IntN(9)))
		for range s.IntN(digits) {
			parts[i] += string(rune('0' + s.IntN(10)))
		}
	}
	x, _ := new(big.Rat).SetString(parts[0] + "/" + parts[1])
	return x.RatString()
}

// negatives are the opposites of the positive numbers.
func negatives() []string {
	l := positives()
	for i, a := range l {
		l[i] = "-" + a
	}
	return l
}

// weights are weights of a kind.
func weights(kind int) []string {
	if kind == api.Tropical {
		return slices.Concat([]string{"0"}, positives(), negatives())
	}
	return positives()
}

// values are values of a kind.
func values(kind int) []string {
	if kind == api.Tropical {
		return append(weights(kind), "inf", "-inf")
	}
	return append(weights(kind), "0", "inf")
}

// few are some values of a kind, short enough for all triples of them.
func few(kind int) []string {
	l := []string{"0", "inf", "1", "2", "3", "1/2", "1/3", "2/3", "3/2", "5/6", "7", "99/100"}
	if kind == api.Tropical {
		l = append(l, "-inf", "-1", "-2", "-1/2", "-1/3", "-2/3", "-3/2", "-7")
	}
	return l
}

// value is a value as a number, or as less (far -1) or greater (far 1) than all numbers.
type value struct {
	far int
	x   *big.Rat
}

func of(a string) value {
	switch a {
	case "inf":
		return value{far: 1}
	case "-inf":
		return value{far: -1}
	}
	x, ok := new(big.Rat).SetString(a)
	if !ok {
		panic("not a value: " + a)
	}
	return value{x: x}
}

// result is what a function returns whose result is v.
func result(v value) (a string, e api.Errno) {
	if v.far != 0 {
		return map[int]string{1: "inf", -1: "-inf"}[v.far], api.OK
	}
	num := new(big.Int).Abs(v.x.Num()).String()
	if max(len(num), len(v.x.Denom().String())) > 400 {
		return "", api.ErrLong
	}
	return v.x.RatString(), api.OK
}

// order returns -1, 0 or 1 if v is less than w, equal, or greater.
func order(v, w value) int {
	switch {
	case v.far < w.far:
		return -1
	case v.far > w.far:
		return 1
	case v.far != 0:
		return 0
	}
	return v.x.Cmp(w.x)
}

func isZero(v value) bool {
	return v.far == 0 && v.x.Sign() == 0
}

// expectedPlus is Plus by the chapter's table.
func expectedPlus(kind int, v, w value) value {
	switch kind {
	case api.Tropical:
		if order(v, w) < 0 {
			return v
		}
		return w
	case api.Viterbi:
		if order(v, w) > 0 {
			return v
		}
		return w
	}
	if v.far+w.far > 0 {
		return value{far: 1}
	}
	return value{x: new(big.Rat).Add(v.x, w.x)}
}

// expectedTimes is Times by the chapter's table.
func expectedTimes(kind int, v, w value) value {
	if kind == api.Tropical {
		if v.far == 1 || w.far == 1 {
			return value{far: 1}
		}
		if v.far == -1 || w.far == -1 {
			return value{far: -1}
		}
		return value{x: new(big.Rat).Add(v.x, w.x)}
	}
	if isZero(v) || isZero(w) {
		return of("0")
	}
	if v.far+w.far > 0 {
		return value{far: 1}
	}
	return value{x: new(big.Rat).Mul(v.x, w.x)}
}

// expectedStar is the star by the chapter's table.
func expectedStar(kind int, v value) value {
	switch c := order(v, of(semi.One(kind))); {
	case kind == api.Tropical && c < 0:
		return value{far: -1}
	case kind == api.Probability && c < 0:
		x := new(big.Rat).Sub(big.NewRat(1, 1), v.x)
		return value{x: x.Inv(x)}
	case kind == api.Probability, kind == api.Viterbi && c > 0:
		return value{far: 1}
	}
	return of(semi.One(kind))
}

// expectedOver is the quotient of Zero or a weight, and a weight.
func expectedOver(kind int, v, w value) value {
	switch {
	case v.far != 0:
		return v
	case kind == api.Tropical:
		return value{x: new(big.Rat).Sub(v.x, w.x)}
	}
	return value{x: new(big.Rat).Quo(v.x, w.x)}
}
