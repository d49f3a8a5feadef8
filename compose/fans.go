package compose

import (
	"cmp"
	"slices"

	"abugida/api"
)

// fan has the arcs of a state by their symbols on the side at which two machines
// meet.
type fan struct {
	// alone are the arcs without a symbol there: the machine goes on alone.
	alone   []api.Arc
	bundles []bundle
	// stays reports whether the machine may stay in the state until it meets the other
	// one, or for good.
	stays bool
}

// bundle has the arcs of a state with one symbol.
type bundle struct {
	symbol int
	arcs   []api.Arc
}

// fans returns the function that looks at a state. It prepares each state when it is
// first looked at, because a word passes few of the states of a large lexicon.
func fans(m api.Machine, symbol func(a api.Arc) int) func(state int) *fan {
	known := make([]*fan, len(m.States))
	return func(state int) *fan {
		if known[state] == nil {
			known[state] = fanOf(m.States[state], symbol)
		}
		return known[state]
	}
}

// fanOf sorts the arcs of a state into bundles, which are in the order of their
// symbols.
func fanOf(state api.State, symbol func(a api.Arc) int) *fan {
	l := slices.Clone(state.Arcs)
	slices.SortStableFunc(l, func(x, y api.Arc) int { return cmp.Compare(symbol(x), symbol(y)) })
	f := &fan{}
	for first, next := 0, 0; first < len(l); first = next {
		s := symbol(l[first])
		for next < len(l) && symbol(l[next]) == s {
			next++
		}
		if s == 0 {
			f.alone = l[first:next]
		} else {
			f.bundles = append(f.bundles, bundle{s, l[first:next]})
		}
	}
	f.stays = state.Final != "" || len(f.bundles) > 0
	return f
}

// meet visits the pairs of arcs of two fans that have the same symbol.
func meet(p, q []bundle, visit func(x, y api.Arc)) {
	for len(p) > 0 && len(q) > 0 {
		switch s, t := p[0].symbol, q[0].symbol; {
		case s < t:
			p = p[1:]
		case s > t:
			q = q[1:]
		default:
			for _, x := range p[0].arcs {
				for _, y := range q[0].arcs {
					visit(x, y)
				}
			}
			p, q = p[1:], q[1:]
		}
	}
}
