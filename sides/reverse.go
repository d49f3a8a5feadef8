package sides

import (
	"abugida/api"
	"abugida/semi"
)

// reversible reports whether the reverse of a machine is not too large: it has
// another start, with an arc to each final state.
func reversible(a api.Machine) bool {
	states, arcs := len(a.States)+1, 0
	for _, s := range a.States {
		arcs += len(s.Arcs)
		if s.Final != "" {
			arcs++
		}
	}
	return states <= api.MaxStates && arcs <= api.MaxArcs
}

// reversed returns the machine whose paths go through a from its ends to its start.
func reversed(a api.Machine) api.Machine {
	start := len(a.States)
	states := make([]api.State, start+1)
	add := func(from int, arc api.Arc) {
		states[from].Arcs = append(states[from].Arcs, arc)
	}
	for i, s := range a.States {
		if s.Final != "" {
			add(start, api.Arc{W: s.Final, To: i})
		}
		for _, arc := range s.Arcs {
			end := arc.To
			arc.To = i
			add(end, arc)
		}
	}
	states[a.Start].Final = semi.One(a.Kind)
	return api.Machine{Kind: a.Kind, Start: start, Lead: a.Lead, States: states}
}
