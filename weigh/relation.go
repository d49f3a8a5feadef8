package weigh

import (
	"cmp"
	"slices"

	"abugida/api"
	"abugida/closure"
	"abugida/exact"
)

// relation is a machine, prepared so that many words can be weighed.
type relation struct {
	exact.Semiring
	machine api.Machine
	seen    func(a api.Arc) api.Arc
	// sorted has the arcs of each state as they are seen, in the order of their
	// symbols, once they have been asked for.
	sorted [][]api.Arc
	// silent has the states to which silent paths lead from each state, and the
	// state itself. If there are no silent arcs, it is nil, and so is knots.
	silent []set
	// knots are the sets of states between which silent paths lead there and
	// back, those first to which the silent paths of others lead. knot has the
	// index of each state's.
	knots [][]int
	knot  []int
	// stars has the sums of the silent paths within each knot, once they have been
	// asked for.
	stars [][][]string
}

// bothSides and inputSide are the ways to see an arc. Seen from the input side,
// arcs have no outputs.
func bothSides(a api.Arc) api.Arc {
	return a
}

func inputSide(a api.Arc) api.Arc {
	a.Out = 0
	return a
}

// relationOf prepares a valid machine. With silent arcs, it is too large for the
// sums of silent paths if it is too large for a matrix.
func relationOf(m api.Machine, seen func(a api.Arc) api.Arc) (r *relation, e api.Errno) {
	r = &relation{Semiring: exact.Of(m.Kind), machine: m, seen: seen, sorted: make([][]api.Arc, len(m.States))}
	if !slices.ContainsFunc(m.States, r.pauses) {
		return r, api.OK
	}
	if len(m.States) > api.MaxMatrix {
		return nil, api.ErrLong
	}
	r.findSilent()
	r.findKnots()
	return r, api.OK
}

// pauses reports whether a state has silent arcs.
func (r *relation) pauses(s api.State) bool {
	return slices.ContainsFunc(s.Arcs, func(a api.Arc) bool {
		a = r.seen(a)
		return a.In == 0 && a.Out == 0
	})
}

// arcs returns the arcs from a state that have two symbols.
func (r *relation) arcs(state, in, out int) []api.Arc {
	l := r.sorted[state]
	if l == nil {
		l = slices.Clone(r.machine.States[state].Arcs)
		for i, a := range l {
			l[i] = r.seen(a)
		}
		slices.SortFunc(l, func(a, b api.Arc) int { return compare(a, api.Pair{In: b.In, Out: b.Out}) })
		r.sorted[state] = l
	}
	first, _ := slices.BinarySearchFunc(l, api.Pair{In: in, Out: out}, compare)
	behind, _ := slices.BinarySearchFunc(l, api.Pair{In: in, Out: out + 1}, compare)
	return l[first:behind]
}

func compare(a api.Arc, p api.Pair) int {
	return cmp.Or(cmp.Compare(a.In, p.In), cmp.Compare(a.Out, p.Out))
}

func (r *relation) silentArcs(state int) []api.Arc {
	return r.arcs(state, 0, 0)
}

// findSilent follows silent paths over more and more states.
func (r *relation) findSilent() {
	states := len(r.machine.States)
	for i := range states {
		s := setOf(states, i)
		for _, a := range r.silentArcs(i) {
			s.add(a.To)
		}
		r.silent = append(r.silent, s)
	}
	for over, further := range r.silent {
		for _, s := range r.silent {
			if s.has(over) {
				s.join(further)
			}
		}
	}
}

// spread adds to a set of states those to which silent paths lead.
func (r *relation) spread(s set) {
	for i, further := range r.silent {
		if s.has(i) {
			s.join(further)
		}
	}
}

// findKnots goes by how many states the silent paths lead to: where they lead
// out of a knot, they lead to fewer ones from there.
func (r *relation) findKnots() {
	var order []int
	for i := range r.silent {
		order = append(order, i)
	}
	slices.SortStableFunc(order, func(i, j int) int { return cmp.Compare(r.silent[i].size(), r.silent[j].size()) })
	r.knot = slices.Repeat([]int{-1}, len(order))
	for _, i := range order {
		if r.knot[i] >= 0 {
			continue
		}
		var knot []int
		for j := range r.silent[i].all() {
			if r.silent[j].has(i) {
				r.knot[j] = len(r.knots)
				knot = append(knot, j)
			}
		}
		r.knots = append(r.knots, knot)
	}
	r.stars = make([][][]string, len(r.knots))
}

// star returns the sums of the silent paths within a knot.
func (r *relation) star(k int) [][]string {
	if r.stars[k] != nil {
		return r.stars[k]
	}
	knot := r.knots[k]
	steps := make([][]string, len(knot))
	for i, state := range knot {
		steps[i] = slices.Repeat([]string{r.Zero}, len(knot))
		for _, a := range r.silentArcs(state) {
			if j, found := slices.BinarySearch(knot, a.To); found {
				steps[i][j] = r.Plus(steps[i][j], a.W)
			}
		}
	}
	r.stars[k] = exact.Must(closure.Star(r.machine.Kind, steps))
	return r.stars[k]
}
