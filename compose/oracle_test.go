package compose_test

import (
	"slices"
	"testing"

	"abugida/api"
	"abugida/closure"
	"abugida/exact"
	"abugida/samples"
)

// byPaths adds up the products of all paths of two machines without cycles that have
// the same word between them.
func byPaths(a, b api.Machine) samples.Relation {
	r := samples.Zeros(a.Kind)
	for _, p := range samples.Paths(a, len(a.States)) {
		for _, q := range samples.Paths(b, len(b.States)) {
			key := [2]string{samples.Text(p.X), samples.Text(q.Y)}
			if w, listed := r[key]; listed && slices.Equal(p.Y, q.X) {
				r[key] = plus(a.Kind, w, times(a.Kind, p.W, q.W))
			}
		}
	}
	return r
}

// matrix is a matrix over a semiring.
type matrix [][]string

// algebra computes with matrices.
type algebra struct {
	exact.Semiring
	kind int
}

func (g algebra) zeros(rows, columns int) matrix {
	m := make(matrix, rows)
	for i := range m {
		m[i] = slices.Repeat([]string{g.Zero}, columns)
	}
	return m
}

func (g algebra) sum(a, b matrix) matrix {
	m := g.zeros(len(a), len(a[0]))
	for i := range m {
		for j := range m[i] {
			m[i][j] = g.Plus(a[i][j], b[i][j])
		}
	}
	return m
}

func (g algebra) product(a, b matrix) matrix {
	m := g.zeros(len(a), len(b[0]))
	for i := range m {
		for k, w := range a[i] {
			if w == g.Zero {
				continue
			}
			for j := range m[i] {
				m[i][j] = g.Plus(m[i][j], g.Times(w, b[k][j]))
			}
		}
	}
	return m
}

// together is the Kronecker product: both matrices make their steps at once.
func (g algebra) together(a, b matrix) matrix {
	m := g.zeros(len(a)*len(b), len(a[0])*len(b[0]))
	for i := range m {
		for j := range m[i] {
			m[i][j] = g.Times(a[i/len(b)][j/len(b[0])], b[i%len(b)][j%len(b[0])])
		}
	}
	return m
}

func (g algebra) star(t *testing.T, a matrix) matrix {
	t.Helper()
	b, e := closure.Star(g.kind, a)
	if e != api.OK {
		t.Fatalf("star of %d rows: %v", len(a), e)
	}
	return b
}

// view is a machine at the places of a word that stands on one of its sides: its
// beginning, its end, and its arcs for each symbol of the other side.
type view struct {
	start, end matrix
	arcs       [3]matrix
}

// viewOf takes a machine with a word as its outputs, if inverse is true, or as its
// inputs.
func (g algebra) viewOf(m api.Machine, x []int, inverse bool) view {
	places := len(x) + 1
	size := len(m.States) * places
	v := view{start: g.zeros(1, size), end: g.zeros(size, 1)}
	for s := range v.arcs {
		v.arcs[s] = g.zeros(size, size)
	}
	v.start[0][m.Start*places] = m.Lead
	for i, s := range m.States {
		if s.Final != "" {
			v.end[i*places+len(x)][0] = s.Final
		}
		for _, a := range s.Arcs {
			near, far := a.In, a.Out
			if inverse {
				near, far = a.Out, a.In
			}
			for at := range places {
				from, to := i*places+at, a.To*places+at
				switch {
				case near == 0:
				case at < len(x) && x[at] == near:
					to++
				default:
					continue
				}
				v.arcs[far][from][to] = g.Plus(v.arcs[far][from][to], a.W)
			}
		}
	}
	return v
}

// byMatrices computes the value of x and y in the composition of two machines of the
// symbols 1 and 2. Each machine goes on alone, then both make a step with a common
// symbol, then each goes on alone again, and so on: since the machines going on alone
// are two factors of one Kronecker product, there is no order between them.
func byMatrices(t *testing.T, a, b api.Machine, x, y []int) string {
	t.Helper()
	g := algebra{exact.Of(a.Kind), a.Kind}
	p, q := g.viewOf(a, x, false), g.viewOf(b, y, true)
	alone := g.together(g.star(t, p.arcs[0]), g.star(t, q.arcs[0]))
	common := g.sum(g.together(p.arcs[1], q.arcs[1]), g.together(p.arcs[2], q.arcs[2]))
	all := g.product(alone, g.star(t, g.product(common, alone)))
	return g.product(g.product(g.together(p.start, q.start), all), g.together(p.end, q.end))[0][0]
}
