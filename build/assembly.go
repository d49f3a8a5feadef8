package build

import (
	"slices"

	"abugida/api"
	"abugida/semi"
)

// nowhere is what follows a copy of a machine whose paths end where its own do.
const nowhere = -1

// builder grows the states of a machine.
type builder struct {
	states []api.State
}

// add adds a state and returns its number.
func (b *builder) add(final string) int {
	b.states = append(b.states, api.State{Final: final})
	return len(b.states) - 1
}

func (b *builder) arc(from, in, out int, w string, to int) {
	s := &b.states[from]
	s.Arcs = append(s.Arcs, api.Arc{In: in, Out: out, W: w, To: to})
}

// pause adds a silent arc.
func (b *builder) pause(from int, w string, to int) {
	b.arc(from, 0, 0, w, to)
}

// assembly is a machine of a kind that is put together.
type assembly struct {
	builder
	kind int
	one  string
}

func assemblyOf(kind int) *assembly {
	return &assembly{kind: kind, one: semi.One(kind)}
}

// between adds a state between copies of a machine, which may end there.
func (b *assembly) between(final bool) int {
	if final {
		return b.add(b.one)
	}
	return b.add("")
}

// copier returns a function that adds another copy of a, without its Lead, and
// returns the copy's start. The final states lead on to a state, unless that is
// nowhere.
func (b *assembly) copier(a api.Machine) func(next int) (start int) {
	return func(next int) int {
		first := len(b.states)
		for _, s := range a.States {
			from := b.add("")
			b.states[from].Arcs = moved(s.Arcs, first)
			switch {
			case next == nowhere:
				b.states[from].Final = s.Final
			case s.Final != "":
				b.pause(from, s.Final, next)
			}
		}
		return first + a.Start
	}
}

func (b *assembly) machine(start int, lead string) api.Machine {
	return api.Machine{Kind: b.kind, Start: start, Lead: lead, States: b.states}
}

// moved returns a copy of arcs whose states have numbers that are higher by so
// much.
func moved(arcs []api.Arc, by int) []api.Arc {
	l := slices.Clone(arcs)
	for i := range l {
		l[i].To += by
	}
	return l
}
