package samples

import (
	"abugida/api"
	"abugida/semi"
)

// Bounded is a copy of a machine with One instead of each weight that is better
// than it.
func Bounded(m api.Machine) api.Machine {
	m = Twin(m)
	for w := range weightsIn(&m) {
		if better(m.Kind, *w) {
			*w = semi.One(m.Kind)
		}
	}
	return m
}

// IsBounded reports whether no weight of a machine is better than One.
func IsBounded(m api.Machine) bool {
	for w := range weightsIn(&m) {
		if better(m.Kind, *w) {
			return false
		}
	}
	return true
}

func better(kind int, w string) bool {
	return w != "" && semi.Better(kind, w, semi.One(kind)) < 0
}

// weightsIn visits all weights of a machine, and what stands for them in states
// that are not final.
func weightsIn(m *api.Machine) func(visit func(w *string) bool) {
	return func(visit func(w *string) bool) {
		if !visit(&m.Lead) {
			return
		}
		for i := range m.States {
			s := &m.States[i]
			if !visit(&s.Final) {
				return
			}
			for j := range s.Arcs {
				if !visit(&s.Arcs[j].W) {
					return
				}
			}
		}
	}
}
