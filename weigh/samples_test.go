package weigh_test

import (
	"fmt"
	"math/rand/v2"
	"slices"
	"strings"
	"testing"

	"abugida/api"
	"abugida/semi"
)

var kinds = []int{api.Tropical, api.Probability, api.Viterbi}

// weights are weights of a kind, at which infinite sums begin to diverge among
// them.
func weights(kind int) []string {
	if kind == api.Tropical {
		return []string{"0", "1", "2", "3/2", "-1/2", "-1"}
	}
	return []string{"1/2", "1/3", "1/4", "2/3", "1", "2"}
}

// nines is the greatest natural number of so many digits.
func nines(digits int) string {
	return strings.Repeat("9", digits)
}

// longest are weights of a kind whose products with themselves are too long.
func longest(kind int) []string {
	if kind == api.Tropical {
		return []string{nines(400), "-" + nines(400)}
	}
	return []string{nines(400), "1/" + nines(400)}
}

// symbol returns an arc that has a symbol on both sides.
func symbol(a int, w string, to int) api.Arc {
	return api.Arc{In: a, Out: a, W: w, To: to}
}

// two is the machine p of the chapter's examples.
func two() api.Machine {
	return api.Machine{Kind: api.Probability, Lead: "1", States: []api.State{
		{Arcs: []api.Arc{{In: 1, Out: 2, W: "1/2", To: 1}, {W: "1/3", To: 0}}},
		{Final: "1", Arcs: []api.Arc{{Out: 2, W: "1/4", To: 1}}},
	}}
}

// loop is a machine of one state with arcs to itself.
func loop(kind int, lead, final string, arcs ...api.Arc) api.Machine {
	return api.Machine{Kind: kind, Lead: lead, States: []api.State{{Final: final, Arcs: arcs}}}
}

// chain is a machine of states in a row, the last one of which is final.
func chain(kind, states int, arc api.Arc) api.Machine {
	m := api.Machine{Kind: kind, Lead: semi.One(kind), States: make([]api.State, states)}
	for i := range states - 1 {
		arc.To = i + 1
		m.States[i].Arcs = []api.Arc{arc}
	}
	m.States[states-1].Final = semi.One(kind)
	return m
}

// random returns a machine of the symbols 1 and 2. Without cycles, its arcs lead
// to later states.
func random(r *rand.Rand, kind, states, arcs int, cycles bool) api.Machine {
	l := weights(kind)
	if r.IntN(2) == 0 {
		// Few of the sums of other weights are finite.
		l = l[:4]
	}
	pick := func() string {
		return l[r.IntN(len(l))]
	}
	m := api.Machine{Kind: kind, Lead: pick(), States: make([]api.State, states)}
	if cycles {
		m.Start = r.IntN(states)
	}
	for i := range m.States {
		if r.IntN(3) == 0 {
			m.States[i].Final = pick()
		}
	}
	for range arcs {
		from, to := r.IntN(states), r.IntN(states)
		if !cycles {
			if from == to {
				continue
			}
			from, to = min(from, to), max(from, to)
		}
		m.States[from].Arcs = append(m.States[from].Arcs, api.Arc{In: r.IntN(3), Out: r.IntN(3), W: pick(), To: to})
	}
	return m
}

// acceptorOf returns the machine of the inputs of m.
func acceptorOf(m api.Machine) api.Machine {
	m = twin(m)
	for _, s := range m.States {
		for i, a := range s.Arcs {
			s.Arcs[i].Out = a.In
		}
	}
	return m
}

// eachMachine visits random machines of a kind.
func eachMachine(kind, n int, visit func(m api.Machine)) {
	r := rand.New(rand.NewPCG(8, uint64(kind)))
	for i := range n {
		visit(random(r, kind, 1+i%4, r.IntN(11), i%3 > 0))
	}
}

// words returns all words of at most so many symbols from 1 to 2, in the order of
// words.
func words(most int) [][]int {
	l := [][]int{nil}
	for i := 0; len(l[i]) < most; i++ {
		for a := 1; a <= 2; a++ {
			l = append(l, append(slices.Clone(l[i]), a))
		}
	}
	return l
}

// twin is a copy of a machine that has spare capacity in each slice.
func twin(m api.Machine) api.Machine {
	n := m
	n.States = append(slices.Clone(m.States), api.State{Final: "spare"})[:len(m.States)]
	for i, s := range m.States {
		n.States[i].Arcs = append(slices.Clone(s.Arcs), api.Arc{In: 77})[:len(s.Arcs)]
	}
	return n
}

// whole is a machine with the spare capacity of its slices.
func whole(m api.Machine) api.Machine {
	m.States = slices.Clone(m.States[:cap(m.States)])
	for i, s := range m.States {
		m.States[i].Arcs = s.Arcs[:cap(s.Arcs)]
	}
	return m
}

// broken are machines that are not valid, each made of a machine of two states
// with arcs.
func broken(m api.Machine) []api.Machine {
	l := []api.Machine{{}}
	for _, change := range []func(m *api.Machine){
		func(m *api.Machine) { m.Kind = 0 },
		func(m *api.Machine) { m.Kind = 4 },
		func(m *api.Machine) { m.Start = -1 },
		func(m *api.Machine) { m.Start = len(m.States) },
		func(m *api.Machine) { m.Lead = "" },
		func(m *api.Machine) { m.Lead = "inf" },
		func(m *api.Machine) { m.States = nil },
		func(m *api.Machine) { m.States[1].Final = "2/4" },
		func(m *api.Machine) { m.States[0].Arcs[0].W = "" },
		func(m *api.Machine) { m.States[0].Arcs[0].W = nines(401) },
		func(m *api.Machine) { m.States[0].Arcs[0].To = len(m.States) },
		func(m *api.Machine) { m.States[0].Arcs[0].In = 501 },
		func(m *api.Machine) { m.States[0].Arcs[0].Out = -1 },
		func(m *api.Machine) { m.States[0].Arcs = slices.Repeat(m.States[0].Arcs, 30001) },
		func(m *api.Machine) { m.States = slices.Repeat(m.States, 1501) },
	} {
		n := twin(m)
		change(&n)
		l = append(l, n)
	}
	return l
}

// notWords are lists that are not words.
func notWords() [][]int {
	return [][]int{{0}, {-1}, {501}, {1, 2, 0}, {1, 501, 1}, {1 << 40}, {-1 << 63}, slices.Repeat([]int{1}, 201), slices.Repeat([]int{0}, 1000), make([]int, 1<<20)}
}

// answer is what a call returns.
type answer struct {
	w string
	e api.Errno
}

func of(w string, e api.Errno) answer {
	return answer{w, e}
}

// is checks what a call returns.
func (a answer) is(t *testing.T, w string, e api.Errno, what ...any) {
	t.Helper()
	if a.w != w || a.e != e {
		t.Errorf("%.300s: %.100q, %v, not %.100q, %v", fmt.Sprint(what...), a.w, a.e, w, e)
	}
}
