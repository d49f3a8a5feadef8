package semi

import (
	"abugida/api"
	"abugida/rat"
)

func lesser(a, b string) (string, api.Errno) {
	if compare(b, a) < 0 {
		return b, api.OK
	}
	return a, api.OK
}

func greater(a, b string) (string, api.Errno) {
	if compare(b, a) > 0 {
		return b, api.OK
	}
	return a, api.OK
}

// sumOfCosts is the product of Tropical: inf, its Zero, wins against -inf.
func sumOfCosts(a, b string) (string, api.Errno) {
	switch {
	case a == inf || b == inf:
		return inf, api.OK
	case a == minusInf || b == minusInf:
		return minusInf, api.OK
	}
	return rat.Add(a, b)
}

func sum(a, b string) (string, api.Errno) {
	if a == inf || b == inf {
		return inf, api.OK
	}
	return rat.Add(a, b)
}

func product(a, b string) (string, api.Errno) {
	switch {
	case a == "0" || b == "0":
		return "0", api.OK
	case a == inf || b == inf:
		return inf, api.OK
	}
	return rat.Mul(a, b)
}

// difference is the quotient of Tropical: whatever is taken from inf leaves it.
func difference(a, b string) (string, api.Errno) {
	if a == inf {
		return inf, api.OK
	}
	return rat.Sub(a, b)
}

// starOfCost takes no round, or as many as possible.
func starOfCost(a string) (string, api.Errno) {
	if compare(a, "0") < 0 {
		return minusInf, api.OK
	}
	return "0", api.OK
}

// starOfProbability is the sum of a geometric series. For a = n/d it is
// d/(d-n), which is never too long.
func starOfProbability(a string) (string, api.Errno) {
	if compare(a, "1") >= 0 {
		return inf, api.OK
	}
	rest, _ := rat.Sub("1", a)
	return rat.Div("1", rest)
}

// starOfScore takes no round, or as many as possible.
func starOfScore(a string) (string, api.Errno) {
	if compare(a, "1") > 0 {
		return inf, api.OK
	}
	return "1", api.OK
}
