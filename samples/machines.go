// Package samples is no layer: it has the machines, weights and words that the
// tests of the layers share.
package samples

import (
	"slices"
	"strconv"
	"strings"

	"abugida/api"
	"abugida/semi"
)

// Weights are weights of a kind, at which infinite sums begin to diverge among
// them; the sums of the first four are mostly finite.
func Weights(kind int) []string {
	if kind == api.Tropical {
		return []string{"0", "1", "2", "3/2", "-1/2", "-1"}
	}
	return []string{"1/2", "1/3", "1/4", "2/3", "1", "2"}
}

// NotWeights are strings that are not weights of a kind, the empty one among
// them.
func NotWeights(kind int) []string {
	l := []string{"", "inf", "-inf", "2/4", "1/0", "01", "-0", "+1", "1.5", " 1", "1/1", "a", "\xff", Nines(401), "1/" + Nines(401), Nines(1 << 20)}
	if kind != api.Tropical {
		l = append(l, "0", "-1", "-1/2")
	}
	return l
}

// Nines is the greatest natural number of so many digits.
func Nines(digits int) string {
	return strings.Repeat("9", digits)
}

// Longest are weights of a kind whose products with themselves are too long.
func Longest(kind int) []string {
	if kind == api.Tropical {
		return []string{Nines(400), "-" + Nines(400)}
	}
	return []string{Nines(400), "1/" + Nines(400)}
}

// Symbol returns an arc that has a symbol on both sides.
func Symbol(a int, w string, to int) api.Arc {
	return api.Arc{In: a, Out: a, W: w, To: to}
}

// Loop is a machine of one state with arcs to itself.
func Loop(kind int, lead, final string, arcs ...api.Arc) api.Machine {
	return api.Machine{Kind: kind, Lead: lead, States: []api.State{{Final: final, Arcs: arcs}}}
}

// Chain is a machine of states in a row, the last one of which is final.
func Chain(kind, states int, arc api.Arc) api.Machine {
	m := api.Machine{Kind: kind, Lead: semi.One(kind), States: make([]api.State, states)}
	for i := range states - 1 {
		arc.To = i + 1
		m.States[i].Arcs = []api.Arc{arc}
	}
	m.States[states-1].Final = semi.One(kind)
	return m
}

// Row is a machine of states in a row, whose path has a symbol for each arc.
func Row(kind, states int) api.Machine {
	return Chain(kind, states, Symbol(1, semi.One(kind), 0))
}

// Bunch is a machine of one final state with so many arcs to itself, which have
// many symbols, and of others that are final, too.
func Bunch(kind, arcs, finals int) api.Machine {
	one := semi.One(kind)
	l := make([]api.Arc, arcs)
	for i := range l {
		l[i] = Symbol(1+i%api.MaxSymbols, one, 0)
	}
	m := Loop(kind, one, one, l...)
	for range finals - 1 {
		m.States = append(m.States, api.State{Final: one})
	}
	return m
}

// Random returns a machine of the symbols 1 and 2, as choose decides, which
// returns numbers below the one that it is passed. Without cycles, the arcs lead
// to later states, and there may be fewer of them.
func Random(choose func(n int) int, kind, states, arcs int, cycles bool) api.Machine {
	l := Weights(kind)
	if choose(2) == 0 {
		// Few of the sums of other weights are finite.
		l = l[:4]
	}
	weight := func() string {
		return l[choose(len(l))]
	}
	m := api.Machine{Kind: kind, Lead: weight(), States: make([]api.State, states)}
	if cycles {
		m.Start = choose(states)
	}
	for i := range m.States {
		if choose(3) == 0 {
			m.States[i].Final = weight()
		}
	}
	for range arcs {
		from, to := choose(states), choose(states)
		if !cycles {
			if from == to {
				continue
			}
			from, to = min(from, to), max(from, to)
		}
		m.States[from].Arcs = append(m.States[from].Arcs, api.Arc{In: choose(3), Out: choose(3), W: weight(), To: to})
	}
	return m
}

// Little is a random machine whose weights have numerators and denominators of four
// digits, in all states.
func Little(choose func(n int) int, kind, states, arcs int) api.Machine {
	m := Random(choose, kind, states, arcs, true)
	for w := range weightsIn(&m) {
		*w = little(choose, kind)
	}
	return m
}

// little chooses fractions until one is in lowest terms.
func little(choose func(n int) int, kind int) string {
	for {
		w := strconv.Itoa(1000+choose(9000)) + "/" + strconv.Itoa(1000+choose(9000))
		if semi.Weight(kind, w) {
			return w
		}
	}
}

// Machines are random machines of a kind, small ones of several sizes. Some have
// no cycles.
func Machines(choose func(n int) int, kind, n int) []api.Machine {
	l := make([]api.Machine, n)
	for i := range l {
		l[i] = Random(choose, kind, 1+i%4, choose(9), i%3 > 0)
	}
	return l
}

// Acceptor returns the machine m with the inputs of the arcs as their outputs,
// too.
func Acceptor(m api.Machine) api.Machine {
	m = Twin(m)
	for _, s := range m.States {
		for i, a := range s.Arcs {
			s.Arcs[i].Out = a.In
		}
	}
	return m
}

// Broken are machines that are not valid, each but the first one made of a
// machine of two states with arcs.
func Broken(m api.Machine) []api.Machine {
	l := []api.Machine{{}}
	for _, change := range []func(m *api.Machine){
		func(m *api.Machine) { m.Kind = 0 },
		func(m *api.Machine) { m.Kind = 4 },
		func(m *api.Machine) { m.Start = -1 },
		func(m *api.Machine) { m.Start = len(m.States) },
		func(m *api.Machine) { m.Lead = "" },
		func(m *api.Machine) { m.Lead = "inf" },
		func(m *api.Machine) { m.States = nil },
		func(m *api.Machine) { m.States[1].Final = "2/4" },
		func(m *api.Machine) { m.States[0].Arcs[0].W = "" },
		func(m *api.Machine) { m.States[0].Arcs[0].W = Nines(401) },
		func(m *api.Machine) { m.States[0].Arcs[0].To = len(m.States) },
		func(m *api.Machine) { m.States[0].Arcs[0].In = 501 },
		func(m *api.Machine) { m.States[0].Arcs[0].Out = -1 },
		func(m *api.Machine) { m.States[0].Arcs = slices.Repeat(m.States[0].Arcs, 30001) },
		func(m *api.Machine) { m.States = slices.Repeat(m.States, 1501) },
	} {
		n := Twin(m)
		change(&n)
		l = append(l, n)
	}
	return l
}

// Arcs is the number of all arcs of a machine.
func Arcs(m api.Machine) int {
	n := 0
	for _, s := range m.States {
		n += len(s.Arcs)
	}
	return n
}
