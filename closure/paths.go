package closure

import "abugida/api"

// toEnd returns the sums of the paths from each state to the final ones: with
// x for them, x is Final plus the weights of the arcs times x.
func toEnd(m api.Machine) []string {
	c := of(m.Kind)
	finals := mapped(m.States, func(s api.State) []string {
		if s.Final == "" {
			return c.zeros(1)
		}
		return []string{s.Final}
	})
	return column(c.solve(c.steps(m), finals))
}

// fromStart returns the sums of the paths from the start to each state, which
// are those to the start if all arcs are turned round.
func fromStart(m api.Machine) []string {
	c := of(m.Kind)
	leads := mapped(m.States, func(api.State) []string { return c.zeros(1) })
	leads[m.Start] = []string{m.Lead}
	return column(c.solve(transposed(c.steps(m)), leads))
}

// steps returns the sums of the weights of the arcs from each state to each.
func (c calculus) steps(m api.Machine) [][]string {
	return mapped(m.States, func(s api.State) []string {
		row := c.zeros(len(m.States))
		for _, a := range s.Arcs {
			row[a.To] = c.Plus(row[a.To], a.W)
		}
		return row
	})
}

// column returns the elements of a matrix with one column.
func column(a [][]string) []string {
	return mapped(a, func(row []string) string { return row[0] })
}
