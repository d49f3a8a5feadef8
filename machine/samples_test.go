package machine_test

import (
	"math/rand/v2"
	"slices"
	"strings"

	"abugida/api"
	"abugida/samples"
)

var kinds = []int{api.Tropical, api.Probability, api.Viterbi}

// example is the machine of the chapter's examples.
func example() api.Machine {
	return api.Machine{Kind: api.Tropical, Start: 1, Lead: "2", States: []api.State{
		{},
		{Arcs: []api.Arc{{In: 2, Out: 2, W: "1", To: 2}, {In: 1, Out: 1, W: "0", To: 2}, {In: 1, Out: 1, W: "0", To: 0}}},
		{Final: "3"},
	}}
}

func nothing(kind int) api.Machine {
	return api.Machine{Kind: kind, Lead: map[int]string{api.Tropical: "0", api.Probability: "1", api.Viterbi: "1"}[kind], States: make([]api.State, 1)}
}

// weightsOf are weights of a kind, among them ones at the limit of 400 digits.
func weightsOf(kind int) []string {
	l := []string{"1", "2", "10", "1/2", "3/4", samples.Nines(400), "1/" + samples.Nines(400)}
	if kind == api.Tropical {
		l = append(l, "0", "-1", "-7/3", "-"+samples.Nines(400))
	}
	return l
}

// machines are valid machines, by what is special about them.
func machines() map[string]api.Machine {
	all := map[string]api.Machine{"example": example()}
	for name, kind := range map[string]int{"tropical": api.Tropical, "probability": api.Probability, "viterbi": api.Viterbi} {
		all[name+" nothing"] = nothing(kind)
		all[name+" one path of no arcs"] = api.Machine{Kind: kind, Lead: "1", States: []api.State{{Final: "1/2"}}}
		for _, w := range weightsOf(kind) {
			all[name+" weight "+w] = api.Machine{Kind: kind, Lead: w, States: []api.State{{Final: w, Arcs: []api.Arc{{In: 500, Out: 0, W: w, To: 0}}}}}
		}
	}
	all["many states"] = chain(api.MaxStates)
	all["many arcs of a state"] = fan(1, api.MaxArcs)
	all["many arcs of many states"] = fan(api.MaxStates, api.MaxArcs/api.MaxStates)
	last := chain(3)
	last.Start = 2
	all["start at the end"] = last
	r := rand.New(rand.NewPCG(6, 1))
	for _, name := range strings.Fields("a b c d e f g h i j") {
		all["random "+name] = random(r, 1+r.IntN(6), r.IntN(12))
	}
	return all
}

// chain is a machine of some states in a row, each with an arc to the next one.
func chain(states int) api.Machine {
	m := api.Machine{Kind: api.Tropical, Lead: "0", States: make([]api.State, states)}
	for i := range states - 1 {
		m.States[i].Arcs = []api.Arc{{In: 1 + i%500, Out: 1 + i%500, W: "1", To: i + 1}}
	}
	m.States[states-1].Final = "1"
	return m
}

// fan is a machine each of whose states has some arcs, to one state after the other.
func fan(states, arcs int) api.Machine {
	m := api.Machine{Kind: api.Viterbi, Lead: "1", States: make([]api.State, states)}
	for i := range m.States {
		m.States[i].Final = "1"
		for j := range arcs {
			m.States[i].Arcs = append(m.States[i].Arcs, api.Arc{In: (i + j) % 501, Out: j % 501, W: "1/2", To: (i * (j + 1)) % states})
		}
	}
	return m
}

// random is a machine with few different symbols and weights, so that there are
// arcs that differ in their ends only, and equal ones.
func random(r *rand.Rand, states, arcs int) api.Machine {
	pick := func(l ...string) string {
		return l[r.IntN(len(l))]
	}
	m := api.Machine{Kind: 1 + r.IntN(3), Start: r.IntN(states), Lead: pick("1", "2"), States: make([]api.State, states)}
	for i := range m.States {
		m.States[i].Final = pick("", "", "1", "1/3")
	}
	for range arcs {
		s := &m.States[r.IntN(states)]
		s.Arcs = append(s.Arcs, api.Arc{In: r.IntN(3), Out: r.IntN(2), W: pick("1", "10", "2"), To: r.IntN(states)})
	}
	return m
}

// acceptor is a random deterministic acceptor over the symbols 1 to 3.
func acceptor(r *rand.Rand, states int) api.Machine {
	m := random(r, states, 0)
	for i := range m.States {
		for _, symbol := range r.Perm(3)[:r.IntN(4)] {
			m.States[i].Arcs = append(m.States[i].Arcs, api.Arc{In: symbol + 1, Out: symbol + 1, W: "2", To: r.IntN(states)})
		}
	}
	return m
}

// renumbered is the machine m with its states and its arcs in another order.
func renumbered(r *rand.Rand, m api.Machine) api.Machine {
	to := r.Perm(len(m.States))
	n := m
	n.Start = to[m.Start]
	n.States = make([]api.State, len(m.States))
	for i, s := range m.States {
		s.Arcs = slices.Clone(s.Arcs)
		for j := range s.Arcs {
			s.Arcs[j].To = to[s.Arcs[j].To]
		}
		r.Shuffle(len(s.Arcs), func(i, j int) { s.Arcs[i], s.Arcs[j] = s.Arcs[j], s.Arcs[i] })
		n.States[to[i]] = s
	}
	return n
}
