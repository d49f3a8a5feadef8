package samples

import (
	"slices"

	"abugida/api"
	"abugida/machine"
)

// Twin is a copy of a machine that has spare capacity in each slice, with what is
// not in the machine.
func Twin(m api.Machine) api.Machine {
	n := m
	n.States = append(slices.Clone(m.States), api.State{Final: "spare"}, api.State{Final: "spare"})[:len(m.States)]
	for i, s := range m.States {
		n.States[i].Arcs = append(slices.Clone(s.Arcs), api.Arc{In: 77}, api.Arc{In: 77})[:len(s.Arcs)]
	}
	return n
}

// Whole is a machine with the spare capacity of its slices.
func Whole(m api.Machine) api.Machine {
	m.States = slices.Clone(m.States[:cap(m.States)])
	for i, s := range m.States {
		m.States[i].Arcs = s.Arcs[:cap(s.Arcs)]
	}
	return m
}

// Separate checks that the functions that make some results of two machines make the
// same ones again, and leave the machines as they are, with their spare capacity, also
// when the results are overwritten.
func Separate(t Test, a, b api.Machine, results func(a, b api.Machine) []api.Machine) {
	t.Helper()
	a, b = Twin(a), Twin(b)
	p, q := Whole(Twin(a)), Whole(Twin(b))
	again := results(a, b)
	for i, m := range results(a, b) {
		if !machine.Same(m, again[i]) {
			t.Fatalf("%.100v, and then %.100v", short(m), short(again[i]))
		}
		overwrite(t, m)
	}
	if !machine.Same(Whole(a), p) || !machine.Same(Whole(b), q) {
		t.Fatalf("%.100v, %.100v have been changed", short(a), short(b))
	}
}

// overwrite changes all of a machine, whose slices must share no memory.
func overwrite(t Test, m api.Machine) {
	t.Helper()
	before := machine.Clone(m)
	for _, s := range m.States {
		behind := s.Arcs[len(s.Arcs):cap(s.Arcs)]
		for i := range behind {
			behind[i] = api.Arc{W: "behind"}
		}
	}
	if !machine.Same(m, before) {
		t.Fatalf("slices of %.100v share memory", short(m))
	}
	for i, s := range m.States {
		for j := range s.Arcs {
			s.Arcs[j] = api.Arc{W: "changed"}
			before.States[i].Arcs[j] = api.Arc{W: "changed"}
		}
		if !machine.Same(m, before) {
			t.Fatalf("slices of %.100v share memory", short(m))
		}
	}
	l := m.States[:cap(m.States)]
	for i := range l {
		l[i] = api.State{Final: "changed"}
	}
}
