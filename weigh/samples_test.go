package weigh_test

import (
	"fmt"
	"math/rand/v2"
	"testing"

	"abugida/api"
	"abugida/samples"
)

var kinds = []int{api.Tropical, api.Probability, api.Viterbi}

// two is the machine p of the chapter's examples.
func two() api.Machine {
	return api.Machine{Kind: api.Probability, Lead: "1", States: []api.State{
		{Arcs: []api.Arc{{In: 1, Out: 2, W: "1/2", To: 1}, {W: "1/3", To: 0}}},
		{Final: "1", Arcs: []api.Arc{{Out: 2, W: "1/4", To: 1}}},
	}}
}

// eachMachine visits random machines of a kind.
func eachMachine(kind, n int, visit func(m api.Machine)) {
	r := rand.New(rand.NewPCG(8, uint64(kind)))
	for i := range n {
		visit(samples.Random(r.IntN, kind, 1+i%4, r.IntN(11), i%3 > 0))
	}
}

// answer is what a call returns.
type answer struct {
	w string
	e api.Errno
}

func of(w string, e api.Errno) answer {
	return answer{w, e}
}

// is checks what a call returns.
func (a answer) is(t *testing.T, w string, e api.Errno, what ...any) {
	t.Helper()
	if a.w != w || a.e != e {
		t.Errorf("%.300s: %.100q, %v, not %.100q, %v", fmt.Sprint(what...), a.w, a.e, w, e)
	}
}
