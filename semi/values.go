package semi

import (
	"cmp"

	"abugida/rat"
)

// The values that are not numbers.
const (
	inf      = "inf"
	minusInf = "-inf"
)

func none(string) bool {
	return false
}

// extended reports whether a string is a rational number, inf or -inf.
func extended(a string) bool {
	return size(a) != 0 || rat.Valid(a)
}

func notNegative(a string) bool {
	negative, _, _, ok := rat.Parts(a)
	return a == inf || ok && !negative
}

// positive reports whether a string is a rational number greater than 0. No
// other string is greater than 0 for Cmp.
func positive(a string) bool {
	return rat.Cmp(a, "0") > 0
}

// size orders the numbers, as a whole, between -inf and inf.
func size(a string) int {
	switch a {
	case minusInf:
		return -1
	case inf:
		return 1
	}
	return 0
}

// compare returns -1, 0 or 1 if a is less than b, equal, or greater. (For Cmp,
// inf is equal to itself, as all strings are that are not numbers.)
func compare(a, b string) int {
	if c := cmp.Compare(size(a), size(b)); c != 0 {
		return c
	}
	return rat.Cmp(a, b)
}

func compareDown(a, b string) int {
	return compare(b, a)
}
