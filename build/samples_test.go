package build_test

import (
	"math/rand/v2"
	"testing"

	"abugida/api"
	"abugida/build"
	"abugida/samples"
	"abugida/semi"
)

var kinds = []int{api.Tropical, api.Probability, api.Viterbi}

// What samples has, by short names.
var (
	of       = samples.Of
	row      = samples.Row
	bunch    = samples.Bunch
	relation = samples.RelationOf
	same     = samples.Alike
)

// one and two are the machines a and b of the chapter's examples.
func one(t *testing.T) api.Machine {
	return of(build.Word(api.Tropical, []int{1}, []int{2}, "3")).Done(t)
}

func two(t *testing.T) api.Machine {
	return of(build.Word(api.Tropical, []int{1}, []int{2}, "5")).Done(t)
}

// eachMachine visits random machines of a kind.
func eachMachine(kind, n int, visit func(m api.Machine)) {
	r := rand.New(rand.NewPCG(9, uint64(kind)))
	for _, m := range samples.Machines(r.IntN, kind, n) {
		visit(m)
	}
}

// eachPair visits pairs of random machines of a kind.
func eachPair(kind, n int, visit func(a, b api.Machine)) {
	r := rand.New(rand.NewPCG(99, uint64(kind)))
	eachMachine(kind, n, func(a api.Machine) {
		visit(a, samples.Random(r.IntN, kind, 1+r.IntN(4), r.IntN(9), r.IntN(3) > 0))
	})
}

// plus and times add and multiply values.
func plus(kind int, a, b string) string {
	c, _ := semi.Plus(kind, a, b)
	return c
}

func times(kind int, a, b string) string {
	c, _ := semi.Times(kind, a, b)
	return c
}
