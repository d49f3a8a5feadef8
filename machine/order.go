package machine

import (
	"cmp"
	"slices"

	"abugida/api"
)

// search returns the states that can be reached from some states by steps, in
// the order in which they are reached if the states are taken one after the
// other in this order, too. A step from a state reaches other ones.
func search(states int, from []int, step func(state int, reach func(to int))) []int {
	seen := make([]bool, states)
	var order []int
	reach := func(to int) {
		if !seen[to] {
			seen[to] = true
			order = append(order, to)
		}
	}
	for _, s := range from {
		reach(s)
	}
	for i := 0; i < len(order); i++ {
		step(order[i], reach)
	}
	return order
}

// successors is the step along the arcs, in their order.
func successors(m api.Machine) func(state int, reach func(to int)) {
	return func(state int, reach func(to int)) {
		for _, a := range m.States[state].Arcs {
			reach(a.To)
		}
	}
}

// predecessors is the step against the arcs.
func predecessors(m api.Machine) func(state int, reach func(to int)) {
	back := make([][]int, len(m.States))
	for i, s := range m.States {
		for _, a := range s.Arcs {
			back[a.To] = append(back[a.To], i)
		}
	}
	return func(state int, reach func(to int)) {
		for _, s := range back[state] {
			reach(s)
		}
	}
}

// useful returns the states of m that are on a path, in their order.
func useful(m api.Machine) []int {
	var finals []int
	for i, s := range m.States {
		if s.Final != "" {
			finals = append(finals, i)
		}
	}
	forwards := search(len(m.States), []int{m.Start}, successors(m))
	backwards := search(len(m.States), finals, predecessors(m))
	ends := make([]bool, len(m.States))
	for _, s := range backwards {
		ends[s] = true
	}
	l := slices.DeleteFunc(forwards, func(s int) bool { return !ends[s] })
	slices.Sort(l)
	return l
}

func trim(m api.Machine) api.Machine {
	l := useful(m)
	if len(l) == 0 {
		return nothing(m.Kind)
	}
	return only(m, l)
}

// only returns the machine of some states of m, among them its start, in the
// order in which they are listed, with the arcs from them to them.
func only(m api.Machine, l []int) api.Machine {
	number := make([]int, len(m.States))
	for i := range number {
		number[i] = -1
	}
	for i, s := range l {
		number[s] = i
	}
	n := api.Machine{Kind: m.Kind, Start: number[m.Start], Lead: m.Lead, States: make([]api.State, len(l))}
	for i, s := range l {
		n.States[i].Final = m.States[s].Final
		for _, a := range m.States[s].Arcs {
			if number[a.To] < 0 {
				continue
			}
			a.To = number[a.To]
			n.States[i].Arcs = append(n.States[i].Arcs, a)
		}
	}
	return n
}

// withSortedArcs returns a copy of m whose arcs are sorted by (In, Out, W, To).
func withSortedArcs(m api.Machine) api.Machine {
	n := m
	n.States = copied(m.States)
	for i, s := range n.States {
		n.States[i].Arcs = sorted(s.Arcs, compareArcs)
	}
	return n
}

func compareArcs(a, b api.Arc) int {
	return cmp.Or(
		cmp.Compare(a.In, b.In),
		cmp.Compare(a.Out, b.Out),
		cmp.Compare(a.W, b.W),
		cmp.Compare(a.To, b.To),
	)
}

// sorted returns a copy of a list in the order of a comparison.
func sorted[T any](l []T, compare func(a, b T) int) []T {
	c := copied(l)
	slices.SortFunc(c, compare)
	return c
}

// copied returns a copy of a list that shares no memory with it.
func copied[T any](l []T) []T {
	c := make([]T, len(l))
	copy(c, l)
	return c
}
