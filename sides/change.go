package sides

import (
	"abugida/api"
	"abugida/machine"
)

// change is what becomes of each arc of a machine.
type change struct {
	arc func(a api.Arc) api.Arc
}

// What a side of an arc gets: no symbol, or the one of a side that the arc had.
const (
	nothing = iota
	input
	output
)

// row says what the sides of each arc get.
type row struct {
	in, out int
}

const (
	inverse = iota
	inputs
	outputs
	onlyRead
	onlyWritten
)

var rows = [...]row{
	inverse:     {in: output, out: input},
	inputs:      {in: input, out: input},
	outputs:     {in: output, out: output},
	onlyRead:    {in: input, out: nothing},
	onlyWritten: {in: nothing, out: output},
}

// moving is the change that a row describes.
func moving(r row) change {
	return change{arc: func(a api.Arc) api.Arc {
		sides := [...]int{nothing: 0, input: a.In, output: a.Out}
		a.In, a.Out = sides[r.in], sides[r.out]
		return a
	}}
}

// changed returns a machine with other arcs in the places of those of a.
func changed(a api.Machine, c change) (m api.Machine, e api.Errno) {
	if !machine.Valid(a) {
		return m, api.ErrArg
	}
	m = a
	m.States = make([]api.State, len(a.States))
	copy(m.States, a.States)
	for i, s := range a.States {
		l := make([]api.Arc, len(s.Arcs))
		for j, arc := range s.Arcs {
			l[j] = c.arc(arc)
		}
		m.States[i].Arcs = l
	}
	return m, api.OK
}
