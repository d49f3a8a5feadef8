package compose

import (
	"abugida/api"
	"abugida/exact"
	"abugida/machine"
)

// room is how many times more pairs and steps are searched than a machine may have
// states and arcs, because many of them may be on no path.
const room = 10

// product is what is known of the pairs of states of two machines.
type product struct {
	exact.Semiring
	a, b  api.Machine
	steps func(at pair, visit func(s step))
	// pairs are those that have been found, in the order of their numbers.
	pairs   []pair
	numbers map[pair]int
	// before has, for each pair, the numbers of those from which a step leads to it.
	before [][]int
	// arcs is how many arcs have been made.
	arcs int
}

// composed returns the machine whose states are the pairs that are on paths. It panics
// if a number or the machine is too long.
func composed(a, b api.Machine) api.Machine {
	p := &product{Semiring: exact.Of(a.Kind), a: a, b: b, steps: stepper(a, b), numbers: map[pair]int{}}
	p.search()
	p.trim()
	return p.machine()
}

// search finds the pairs that the start reaches. Those that have been found are the
// queue of those that are still to be visited.
func (p *product) search() {
	p.number(pair{first: p.a.Start, second: p.b.Start})
	taken := 0
	for i := 0; i < len(p.pairs); i++ {
		p.steps(p.pairs[i], func(s step) {
			taken++
			limit(taken, room*api.MaxArcs)
			to := p.number(s.to)
			p.before[to] = append(p.before[to], i)
		})
	}
}

// number returns the number of a pair, which may be new.
func (p *product) number(at pair) int {
	n, known := p.numbers[at]
	if !known {
		n = len(p.pairs)
		limit(n+1, room*api.MaxStates)
		p.numbers[at] = n
		p.pairs = append(p.pairs, at)
		p.before = append(p.before, nil)
	}
	return n
}

// trim leaves only the pairs that are on paths, and numbers them anew.
func (p *product) trim() {
	useful := p.useful()
	var left []pair
	for n, at := range p.pairs {
		if useful[n] {
			p.numbers[at] = len(left)
			left = append(left, at)
		} else {
			delete(p.numbers, at)
		}
	}
	limit(len(left), api.MaxStates)
	p.pairs = left
}

// useful tells from which pairs both machines can reach their ends.
func (p *product) useful() []bool {
	is := make([]bool, len(p.pairs))
	var open []int
	reach := func(n int) {
		if !is[n] {
			is[n] = true
			open = append(open, n)
		}
	}
	for n, at := range p.pairs {
		if v, w := p.finals(at); v != "" && w != "" {
			reach(n)
		}
	}
	for i := 0; i < len(open); i++ {
		for _, n := range p.before[open[i]] {
			reach(n)
		}
	}
	return is
}

func (p *product) finals(at pair) (v, w string) {
	return p.a.States[at.first].Final, p.b.States[at.second].Final
}

// machine returns the machine of the pairs that are left. Only here are weights
// multiplied, so that no number is too long that is on no path.
func (p *product) machine() api.Machine {
	if len(p.pairs) == 0 {
		return exact.Must(machine.Nothing(p.a.Kind))
	}
	// The start was found first, and it is on all paths.
	m := api.Machine{Kind: p.a.Kind, Start: 0, Lead: p.Times(p.a.Lead, p.b.Lead)}
	for _, at := range p.pairs {
		m.States = append(m.States, p.state(at))
	}
	return m
}

// state makes the state of a pair, with the arcs to pairs that are left.
func (p *product) state(at pair) api.State {
	var s api.State
	if v, w := p.finals(at); v != "" && w != "" {
		s.Final = p.Times(v, w)
	}
	p.steps(at, func(next step) {
		if to, known := p.numbers[next.to]; known {
			p.arcs++
			limit(p.arcs, api.MaxArcs)
			s.Arcs = append(s.Arcs, api.Arc{In: next.in, Out: next.out, W: p.Times(next.first, next.second), To: to})
		}
	})
	return s
}

// limit ends the composition if there is too much of something.
func limit(n, most int) {
	if n > most {
		panic(api.ErrLong)
	}
}
