package sides_test

import (
	"math/rand/v2"
	"slices"
	"testing"

	"abugida/api"
	"abugida/samples"
	"abugida/sides"
)

var kinds = []int{api.Tropical, api.Probability, api.Viterbi}

// What samples has, by short names.
var (
	of       = samples.Of
	gives    = samples.Gives
	row      = samples.Row
	bunch    = samples.Bunch
	relation = samples.RelationOf
	same     = samples.Alike
)

// example is the machine m of the chapter's examples, as it is for any kind.
func example(kind int, first, second, one string) api.Machine {
	return api.Machine{Kind: kind, Lead: one, States: []api.State{
		{Arcs: []api.Arc{{In: 1, Out: 2, W: first, To: 1}, {In: 1, Out: 3, W: second, To: 1}}},
		{Final: one},
	}}
}

// eachMachine visits random machines of a kind.
func eachMachine(kind, n int, visit func(m api.Machine)) {
	r := rand.New(rand.NewPCG(10, uint64(kind)))
	for _, m := range samples.Machines(r.IntN, kind, n) {
		visit(m)
	}
}

// eachPair visits pairs of random acceptors of a kind.
func eachPair(kind, n int, visit func(a, b api.Machine)) {
	r := rand.New(rand.NewPCG(1010, uint64(kind)))
	eachMachine(kind, n, func(a api.Machine) {
		b := samples.Random(r.IntN, kind, 1+r.IntN(4), r.IntN(9), r.IntN(3) > 0)
		visit(samples.Acceptor(a), samples.Acceptor(b))
	})
}

func backwards(x string) string {
	l := []byte(x)
	slices.Reverse(l)
	return string(l)
}

// results are the machines that the functions make of two acceptors.
func results(t *testing.T, a, b api.Machine) []api.Machine {
	t.Helper()
	return []api.Machine{
		of(sides.Invert(a)).Done(t),
		of(sides.Input(a)).Done(t),
		of(sides.Output(a)).Done(t),
		of(sides.Reverse(a)).Done(t),
		of(sides.Cross(a, b)).Done(t),
		of(sides.Rename(a, []api.Pair{{In: 1, Out: 2}, {In: 2}})).Done(t),
	}
}
