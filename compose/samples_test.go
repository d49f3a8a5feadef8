package compose_test

import (
	"math/rand/v2"
	"testing"

	"abugida/api"
	"abugida/compose"
	"abugida/samples"
	"abugida/semi"
)

var kinds = []int{api.Tropical, api.Probability, api.Viterbi}

// What samples has, by short names.
var (
	of       = samples.Of
	gives    = samples.Gives
	row      = samples.Row
	relation = samples.RelationOf
	same     = samples.Alike
)

// path is a machine of arcs in a row with the weights of a tropical path.
func path(arcs ...api.Arc) api.Machine {
	m := api.Machine{Kind: api.Tropical, Lead: "0"}
	for i, a := range arcs {
		a.To = i + 1
		m.States = append(m.States, api.State{Arcs: []api.Arc{a}})
	}
	m.States = append(m.States, api.State{Final: "0"})
	return m
}

// first, second and third are the machines a, b and c of the chapter's examples.
func first() api.Machine {
	return path(api.Arc{In: 1, Out: 2, W: "1"})
}

func second() api.Machine {
	m := path(api.Arc{In: 2, Out: 3, W: "2"})
	m.States[0].Arcs = append(m.States[0].Arcs, api.Arc{In: 2, Out: 4, W: "0", To: 1})
	return m
}

func third() api.Machine {
	return path(api.Arc{In: 1, W: "1"}, api.Arc{In: 1, Out: 2, W: "0"})
}

// eachPair visits pairs of random machines of a kind, of at most so many states. Some
// have no cycles.
func eachPair(kind, n, states int, visit func(a, b api.Machine)) {
	r := rand.New(rand.NewPCG(11, uint64(kind)))
	for i := range n {
		a := samples.Random(r.IntN, kind, 1+r.IntN(states), r.IntN(9), i%3 > 0)
		b := samples.Random(r.IntN, kind, 1+r.IntN(states), r.IntN(9), r.IntN(3) > 0)
		visit(a, b)
	}
}

// eachCyclic visits pairs of random machines of few states, in which many sums are
// infinite.
func eachCyclic(kind, n, states int, visit func(a, b api.Machine)) {
	r := rand.New(rand.NewPCG(111, uint64(kind)))
	for range n {
		a := samples.Random(r.IntN, kind, 1+r.IntN(states), 4+r.IntN(9), true)
		visit(a, samples.Random(r.IntN, kind, 1+r.IntN(states), 4+r.IntN(9), true))
	}
}

// eachTwo visits pairs of random acceptors of a kind.
func eachTwo(kind, n, states int, visit func(a, b api.Machine)) {
	eachPair(kind, n, states, func(a, b api.Machine) {
		visit(samples.Acceptor(a), samples.Acceptor(b))
	})
}

// eachFinite visits pairs of random machines without cycles, which have many arcs.
func eachFinite(kind, n int, visit func(a, b api.Machine)) {
	r := rand.New(rand.NewPCG(1111, uint64(kind)))
	for range n {
		a := samples.Random(r.IntN, kind, 1+r.IntN(5), r.IntN(16), false)
		visit(a, samples.Random(r.IntN, kind, 1+r.IntN(5), r.IntN(16), false))
	}
}

// results are the machines that the functions make of two acceptors.
func results(t *testing.T, a, b api.Machine) []api.Machine {
	t.Helper()
	return []api.Machine{
		of(compose.Compose(a, b)).Done(t),
		of(compose.Intersect(a, b)).Done(t),
		of(compose.After(nil, a)).Done(t),
		of(compose.After([]int{1, 2, 1}, b)).Done(t),
	}
}

// plus and times add and multiply values.
func plus(kind int, a, b string) string {
	c, _ := semi.Plus(kind, a, b)
	return c
}

func times(kind int, a, b string) string {
	c, _ := semi.Times(kind, a, b)
	return c
}

// isInfinite reports whether a value is a sum that does not end.
func isInfinite(kind int, w string) bool {
	return w == "-inf" || w == "inf" && kind != api.Tropical
}
