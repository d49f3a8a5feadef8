package rat

import (
	"strings"

	"abugida/api"
	"abugida/nat"
)

// number is a rational number, taken apart: a fraction in lowest terms, whose
// denominator is not 0. Zero is 0/1 and not negative.
//
// The parts of the numbers that are computed with have at most MaxDigits (400)
// digits each. So the products and sums here have at most 801, and the
// functions of nat, which take 1000, return no errors.
type number struct {
	negative bool
	num, den string
}

// text returns the canonical form. A number that is too long has none.
func (n number) text() string {
	if max(len(n.num), len(n.den)) > api.MaxDigits {
		panic(api.ErrLong)
	}
	a := n.num
	if n.negative {
		a = "-" + a
	}
	if n.den != "1" {
		a += "/" + n.den
	}
	return a
}

// read takes a canonical form apart.
func read(a string) (n number, ok bool) {
	rest, negative := strings.CutPrefix(a, "-")
	num, den, stroke := strings.Cut(rest, "/")
	if !stroke {
		den = "1"
	}
	// Other forms of a number differ from the canonical one.
	if c, e := Make(negative, num, den); e != api.OK || c != a {
		return number{}, false
	}
	return number{negative, num, den}, true
}

// reduce returns a fraction in lowest terms.
func reduce(negative bool, num, den string) number {
	negative = negative && num != "0"
	if den == "1" {
		return number{negative, num, den}
	}
	divisor, _ := nat.Gcd(num, den)
	if divisor != "1" {
		num, _, _ = nat.Div(num, divisor)
		den, _, _ = nat.Div(den, divisor)
	}
	return number{negative, num, den}
}

// times returns the product of two natural numbers. Most denominators are 1.
func times(a, b string) string {
	if a == "1" {
		return b
	}
	if b == "1" {
		return a
	}
	c, _ := nat.Mul(a, b)
	return c
}

func (n number) negated() number {
	return number{!n.negative && n.num != "0", n.num, n.den}
}

func sum(x, y number) number {
	p, q := times(x.num, y.den), times(y.num, x.den)
	den := times(x.den, y.den)
	if x.negative == y.negative {
		num, _ := nat.Add(p, q)
		return reduce(x.negative, num, den)
	}
	if nat.Cmp(p, q) < 0 {
		num, _ := nat.Sub(q, p)
		return reduce(y.negative, num, den)
	}
	num, _ := nat.Sub(p, q)
	return reduce(x.negative, num, den)
}

func product(x, y number) number {
	return reduce(x.negative != y.negative, times(x.num, y.num), times(x.den, y.den))
}

// compare returns -1, 0 or 1 if x is less than y, equal, or greater.
func compare(x, y number) int {
	if x.negative != y.negative {
		if x.negative {
			return -1
		}
		return 1
	}
	if x.negative {
		x, y = y, x
	}
	return nat.Cmp(times(x.num, y.den), times(y.num, x.den))
}
