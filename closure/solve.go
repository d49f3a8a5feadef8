package closure

import "slices"

// solve returns the sum of all powers of a, each times b: the least x for which
// x is b plus a times x.
//
// Where rows of a are equal, so are those of a times x. Let y be the different
// ones. Then each row of x is that of b plus one of y, which makes y the least
// solution of a smaller problem of the same form.
func (c calculus) solve(a, b [][]string) [][]string {
	rows, class := distinct(a)
	if len(rows) == len(a) {
		return c.eliminate(combined(a, b, joined))
	}
	merged := mapped(rows, func(row []string) []string { return c.merged(row, class, len(rows)) })
	constants := mapped(rows, func(row []string) []string { return c.sum(c.zeros(len(b[0])), row, b) })
	y := c.solve(merged, constants)
	return combined(b, class, func(row []string, k int) []string {
		return combined(row, y[k], c.Plus)
	})
}

// merged adds up the elements of a row that belong to the same class.
func (c calculus) merged(row []string, class []int, classes int) []string {
	r := c.zeros(classes)
	for i, k := range class {
		r[k] = c.Plus(r[k], row[i])
	}
	return r
}

// eliminate returns the least solution of equations: each unknown is the sum of
// all unknowns, each times its factor, and of constants. A row has the factors
// and then the constants, of which there are several for several solutions.
func (c calculus) eliminate(rows [][]string) [][]string {
	if len(rows) == 0 {
		return nil
	}
	first := c.solution(rows[0])
	rest := c.eliminate(mapped(rows[1:], first.putInto))
	value := c.sum(first.row[len(rest):], first.row[:len(rest)], rest)
	return slices.Insert(rest, 0, value)
}

// solution is what an unknown is, without itself: the factors of the unknowns
// behind it, and the constants.
type solution struct {
	calculus
	row []string
}

// solution solves an equation for its first unknown, the one that it is for.
func (c calculus) solution(row []string) solution {
	return solution{c, mapped(row[1:], factor{c, c.Star(row[0])}.multiple)}
}

// putInto returns another equation without its first unknown, which this is.
func (s solution) putInto(row []string) []string {
	return s.sum(row[1:], row[:1], [][]string{s.row})
}
