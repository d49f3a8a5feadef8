package weigh

import "slices"

// move leads from a position in two words to another one, by a symbol of one of
// them or of each.
type move struct {
	in, out int
	to      int
}

// positions numbers the positions in two words, from 0 on, so that moves lead
// to greater numbers. It returns how many there are, and the moves from each.
func positions(x, y []int) (n int, moves func(p int) []move) {
	number := func(i, j int) int { return i*(len(y)+1) + j }
	return number(len(x), len(y)) + 1, func(p int) (l []move) {
		i, j := p/(len(y)+1), p%(len(y)+1)
		if i < len(x) {
			l = append(l, move{in: x[i], to: number(i+1, j)})
		}
		if j < len(y) {
			l = append(l, move{out: y[j], to: number(i, j+1)})
		}
		if i < len(x) && j < len(y) {
			l = append(l, move{x[i], y[j], number(i+1, j+1)})
		}
		return l
	}
}

// weight returns the sum of all paths with an input and an output. From the end
// of the words to their beginning, it computes for each state at a position what
// the paths from there to the end have together. It does so only for states that
// the start reaches there: other numbers might be too long.
func (r *relation) weight(x, y []int) string {
	n, moves := positions(x, y)
	// Moves lead at most one row and one place on, so that the values at so many
	// positions are enough.
	values := make([][]string, len(y)+3)
	for i := range values {
		values[i] = make([]string, len(r.machine.States))
	}
	at := func(p int) []string { return values[p%len(values)] }
	for p, states := range slices.Backward(r.reached(n, moves)) {
		steps := moves(p)
		for state := range states.all() {
			w := r.Zero
			if final := r.machine.States[state].Final; p == n-1 && final != "" {
				w = final
			}
			for _, step := range steps {
				for _, a := range r.arcs(state, step.in, step.out) {
					w = r.Plus(w, r.Times(a.W, at(step.to)[a.To]))
				}
			}
			at(p)[state] = w
		}
		r.addSilent(at(p), states)
	}
	return r.Times(r.machine.Lead, at(0)[r.machine.Start])
}

// reached returns the states that the start reaches at each position.
func (r *relation) reached(n int, moves func(p int) []move) []set {
	states := len(r.machine.States)
	l := make([]set, n)
	l[0] = setOf(states, r.machine.Start)
	for p := range l {
		r.spread(l[p])
		for _, step := range moves(p) {
			for state := range l[p].all() {
				for _, a := range r.arcs(state, step.in, step.out) {
					if l[step.to] == nil {
						l[step.to] = setOf(states)
					}
					l[step.to].add(a.To)
				}
			}
		}
	}
	return l
}

// addSilent adds to the values of states at a position what the silent paths from
// them have. The values of the knots to which these lead come first.
func (r *relation) addSilent(values []string, states set) {
	for k, knot := range r.knots {
		if !states.has(knot[0]) {
			continue
		}
		var out []string
		for _, state := range knot {
			w := values[state]
			for _, a := range r.silentArcs(state) {
				if r.knot[a.To] != k {
					w = r.Plus(w, r.Times(a.W, values[a.To]))
				}
			}
			out = append(out, w)
		}
		// Where nothing leads to the end, the star might be too long for nothing.
		if !slices.ContainsFunc(out, r.isValue) {
			continue
		}
		for i, row := range r.star(k) {
			values[knot[i]] = r.product(row, out)
		}
	}
}

func (r *relation) isValue(w string) bool {
	return w != r.Zero
}

// product returns the sum of the products of two lists, place by place.
func (r *relation) product(l, k []string) string {
	w := r.Zero
	for i, a := range l {
		w = r.Plus(w, r.Times(a, k[i]))
	}
	return w
}
