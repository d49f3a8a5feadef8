package semi

import (
	"abugida/api"
	"abugida/rat"
)

// semiring is a kind of semiring. Its operations take values of the kind, and
// over takes Zero or a weight, and a weight.
type semiring struct {
	zero, one     string
	value, weight func(a string) bool
	plus, times   func(a, b string) (string, api.Errno)
	star          func(a string) (string, api.Errno)
	over          func(a, b string) (string, api.Errno)
	better        func(a, b string) int
}

// of returns a kind of semiring. Row 0 stands for all numbers that are no
// kind: it has no values, so that nothing can be computed in it.
func of(kind int) semiring {
	kinds := [...]semiring{
		{
			value: none, weight: none,
		},
		api.Tropical: {
			zero: inf, one: "0",
			value: extended, weight: rat.Valid,
			plus: lesser, times: sumOfCosts,
			star: starOfCost, over: difference,
			better: compare,
		},
		api.Probability: {
			zero: "0", one: "1",
			value: notNegative, weight: positive,
			plus: sum, times: product,
			star: starOfProbability, over: rat.Div,
			better: compareDown,
		},
		api.Viterbi: {
			zero: "0", one: "1",
			value: notNegative, weight: positive,
			plus: greater, times: product,
			star: starOfScore, over: rat.Div,
			better: compareDown,
		},
	}
	if kind < 0 || kind >= len(kinds) {
		kind = 0
	}
	return kinds[kind]
}
