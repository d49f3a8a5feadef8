package machine

import (
	"slices"

	"abugida/api"
	"abugida/semi"
)

// fits reports whether the numbers of states and arcs, and those of the states
// and symbols themselves, are within the limits.
func fits(m api.Machine) bool {
	states, arcs := len(m.States), 0
	if states > api.MaxStates || !within(m.Start, 0, states-1) {
		return false
	}
	for _, s := range m.States {
		arcs += len(s.Arcs)
	}
	return arcs <= api.MaxArcs && all(m, func(a api.Arc) bool {
		return within(a.In, 0, api.MaxSymbols) && within(a.Out, 0, api.MaxSymbols) && within(a.To, 0, states-1)
	})
}

// weighed reports whether Lead and the weights of the arcs and the final states
// are weights of the kind, which has none if it is not a kind.
func weighed(m api.Machine) bool {
	// A machine has few different weights, but a long one takes long to check.
	known := map[string]bool{}
	weight := func(w string) bool {
		ok, found := known[w]
		if !found {
			ok = semi.Weight(m.Kind, w)
			known[w] = ok
		}
		return ok
	}
	for _, s := range m.States {
		if s.Final != "" && !weight(s.Final) {
			return false
		}
	}
	return weight(m.Lead) && all(m, func(a api.Arc) bool { return weight(a.W) })
}

func within(n, least, most int) bool {
	return least <= n && n <= most
}

// all reports whether all arcs have a property.
func all(m api.Machine, has func(a api.Arc) bool) bool {
	for _, s := range m.States {
		for _, a := range s.Arcs {
			if !has(a) {
				return false
			}
		}
	}
	return true
}

func copies(a api.Arc) bool {
	return a.In == a.Out
}

func speaks(a api.Arc) bool {
	return a.In != 0 || a.Out != 0
}

// allDifferent reports whether no two arcs of a state have the same input.
func allDifferent(m api.Machine) bool {
	// last has the number of the last state, counted from 1, that has an arc for
	// the symbol.
	var last [api.MaxSymbols + 1]int
	for i, s := range m.States {
		for _, a := range s.Arcs {
			if last[a.In] == i+1 {
				return false
			}
			last[a.In] = i + 1
		}
	}
	return true
}

func sameState(a, b api.State) bool {
	return a.Final == b.Final && slices.Equal(a.Arcs, b.Arcs)
}
