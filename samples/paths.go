package samples

import (
	"slices"

	"abugida/api"
	"abugida/exact"
)

// Path is what a path spells, and its weight.
type Path struct {
	X, Y []int
	W    string
}

// Paths returns the paths of at most so many arcs.
func Paths(m api.Machine, most int) []Path {
	times := exact.Of(m.Kind).Times
	var l []Path
	var from func(state int, p Path, left int)
	from = func(state int, p Path, left int) {
		if s := m.States[state].Final; s != "" {
			l = append(l, Path{slices.Clone(p.X), slices.Clone(p.Y), times(p.W, s)})
		}
		if left == 0 {
			return
		}
		for _, a := range m.States[state].Arcs {
			from(a.To, Path{spelled(p.X, a.In), spelled(p.Y, a.Out), times(p.W, a.W)}, left-1)
		}
	}
	from(m.Start, Path{W: m.Lead}, most)
	return l
}

// spelled returns a word with another symbol, unless that is 0.
func spelled(x []int, a int) []int {
	if a == 0 {
		return x
	}
	return append(x, a)
}

// Spells checks that the inputs of all paths of a machine without cycles have so
// many symbols.
func Spells(t Test, m api.Machine, symbols ...int) {
	t.Helper()
	var found []int
	for _, p := range Paths(m, len(m.States)) {
		found = append(found, len(p.X))
	}
	slices.Sort(found)
	if !slices.Equal(found, symbols) {
		t.Errorf("%d states: inputs of %v symbols, not of %v", len(m.States), found, symbols)
	}
}
