package sides_test

import (
	"abugida/api"
	"abugida/samples"
	"abugida/semi"
)

// isFinite reports whether arcs lead to later states only.
func isFinite(m api.Machine) bool {
	for i, s := range m.States {
		for _, a := range s.Arcs {
			if a.To <= i {
				return false
			}
		}
	}
	return true
}

// byPaths adds up the weights of all paths of a machine without cycles, for pairs of
// words of at most two symbols that are made of what the paths spell.
func byPaths(m api.Machine, words func(p samples.Path) (x, y []int)) samples.Relation {
	r := samples.Zeros(m.Kind)
	for _, p := range samples.Paths(m, len(m.States)) {
		x, y := words(p)
		key := [2]string{samples.Text(x), samples.Text(y)}
		if w, listed := r[key]; listed {
			r[key], _ = semi.Plus(m.Kind, w, p.W)
		}
	}
	return r
}

// image maps a word by a list of pairs, as the chapter says it.
func image(l []api.Pair, x []int) []int {
	var y []int
	for _, s := range x {
		for _, p := range l {
			if p.In == s {
				s = p.Out
				break
			}
		}
		if s != 0 {
			y = append(y, s)
		}
	}
	return y
}
