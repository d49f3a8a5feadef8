package weigh_test

import (
	"math/big"
	"slices"
	"strings"

	"abugida/api"
	"abugida/closure"
	"abugida/machine"
	"abugida/semi"
)

// product returns the machine whose states are those of m at each place in two
// words. Its paths have the weights of those of m that spell the words.
func product(m api.Machine, x, y []int) api.Machine {
	number := func(i, j, state int) int {
		return (i*(len(y)+1)+j)*len(m.States) + state
	}
	n := api.Machine{Kind: m.Kind, Start: m.Start, Lead: m.Lead, States: make([]api.State, number(len(x), len(y), len(m.States)))}
	for i := range len(x) + 1 {
		for j := range len(y) + 1 {
			for k, s := range m.States {
				here := &n.States[number(i, j, k)]
				if i == len(x) && j == len(y) {
					here.Final = s.Final
				}
				for _, a := range s.Arcs {
					p, q := i+min(a.In, 1), j+min(a.Out, 1)
					if p <= len(x) && q <= len(y) && (p == i || x[i] == a.In) && (q == j || y[j] == a.Out) {
						here.Arcs = append(here.Arcs, api.Arc{W: a.W, To: number(p, q, a.To)})
					}
				}
			}
		}
	}
	return n
}

// total returns the sum of the paths of m that spell two words; done is false if
// they are too many to be added up.
func total(m api.Machine, x, y []int) (w string, done bool) {
	n, _ := machine.Trim(product(m, x, y))
	w, e := closure.Total(n)
	return w, e == api.OK
}

// hasPath reports whether a path of m spells two words.
func hasPath(m api.Machine, x, y []int) bool {
	return !machine.Empty(product(m, x, y))
}

// path is a path's words, each with a space behind each symbol, and its weight.
type path struct {
	x, y string
	w    string
}

// text writes a word as a path has it.
func text(x []int) string {
	var b strings.Builder
	for _, a := range x {
		b.WriteString(string(rune('0'+a)) + " ")
	}
	return b.String()
}

// walk visits all paths of a machine without cycles.
func walk(m api.Machine, visit func(p path)) {
	times := func(a, b string) string {
		c, _ := semi.Times(m.Kind, a, b)
		return c
	}
	extended := func(x string, a int) string {
		if a == 0 {
			return x
		}
		return x + text([]int{a})
	}
	var from func(state int, p path)
	from = func(state int, p path) {
		if s := m.States[state].Final; s != "" {
			visit(path{p.x, p.y, times(p.w, s)})
		}
		for _, a := range m.States[state].Arcs {
			from(a.To, path{extended(p.x, a.In), extended(p.y, a.Out), times(p.w, a.W)})
		}
	}
	from(m.Start, path{w: m.Lead})
}

// add adds to a sum that may not be there yet.
func add(kind int, sums map[[2]string]string, x, y, w string) {
	sum, found := sums[[2]string{x, y}]
	if !found {
		sum = semi.Zero(kind)
	}
	sums[[2]string{x, y}], _ = semi.Plus(kind, sum, w)
}

// solved returns the sum of the paths of a Probability machine for two words, as
// the solution of equations whose factors are small enough for a finite sum.
func solved(m api.Machine, x, y []int) string {
	n := product(m, x, y)
	number := func(w string) *big.Rat {
		q, _ := new(big.Rat).SetString(w)
		return q
	}
	rows := make([][]*big.Rat, len(n.States))
	for i, s := range n.States {
		for range len(n.States) + 1 {
			rows[i] = append(rows[i], new(big.Rat))
		}
		rows[i][i].SetInt64(1)
		for _, a := range s.Arcs {
			rows[i][a.To].Sub(rows[i][a.To], number(a.W))
		}
		if s.Final != "" {
			rows[i][len(n.States)] = number(s.Final)
		}
	}
	gauss(rows)
	w := rows[n.Start][len(n.States)]
	return w.Mul(w, number(m.Lead)).RatString()
}

// gauss solves equations; the last column has the constants and then the solution.
func gauss(rows [][]*big.Rat) {
	for i := range rows {
		k := i + slices.IndexFunc(rows[i:], func(row []*big.Rat) bool { return row[i].Sign() != 0 })
		rows[i], rows[k] = rows[k], rows[i]
		first := new(big.Rat).Inv(rows[i][i])
		for _, v := range rows[i] {
			v.Mul(v, first)
		}
		for j, row := range rows {
			if j == i || row[i].Sign() == 0 {
				continue
			}
			factor := new(big.Rat).Set(row[i])
			for c, v := range row {
				if rows[i][c].Sign() != 0 {
					v.Sub(v, new(big.Rat).Mul(factor, rows[i][c]))
				}
			}
		}
	}
}
