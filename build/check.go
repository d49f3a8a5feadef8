package build

import (
	"slices"

	"abugida/api"
	"abugida/machine"
)

func isWord(x []int) bool {
	return len(x) <= api.MaxWord && areSymbols(x)
}

func areSymbols(l []int) bool {
	return !slices.ContainsFunc(l, func(s int) bool {
		return s < 1 || s > api.MaxSymbols
	})
}

// symbolAt returns the symbol of a word at a place, or 0 behind its end.
func symbolAt(x []int, i int) int {
	if i < len(x) {
		return x[i]
	}
	return 0
}

// check returns the error of two machines that are to be put together.
func check(a, b api.Machine) api.Errno {
	switch {
	case !machine.Valid(a) || !machine.Valid(b):
		return api.ErrArg
	case a.Kind != b.Kind:
		return api.ErrType
	}
	return api.OK
}

// size has the numbers that the bounds name.
type size struct {
	states, arcs, finals int
}

func sizeOf(m api.Machine) size {
	n := size{states: len(m.States)}
	for _, s := range m.States {
		n.arcs += len(s.Arcs)
		if s.Final != "" {
			n.finals++
		}
	}
	return n
}

// fits reports whether a machine may be that large.
func fits(states, arcs int) bool {
	return states <= api.MaxStates && arcs <= api.MaxArcs
}
