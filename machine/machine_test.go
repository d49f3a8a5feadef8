package machine_test

import (
	"math"
	"slices"
	"testing"

	"abugida/api"
	"abugida/machine"
	"abugida/samples"
)

// changes are ways to make a valid machine invalid, by what is then wrong.
func changes(kind int) map[string]func(m *api.Machine) {
	all := map[string]func(m *api.Machine){
		"no states":       func(m *api.Machine) { m.States = nil },
		"too many states": func(m *api.Machine) { m.States = append(m.States, make([]api.State, api.MaxStates)...) },
		"too many arcs": func(m *api.Machine) {
			m.States[0].Arcs = append(m.States[0].Arcs, slices.Repeat([]api.Arc{{W: "1"}}, api.MaxArcs+1)...)
		},
		"too many arcs of two states": func(m *api.Machine) {
			m.States = append(m.States,
				api.State{Arcs: slices.Repeat([]api.Arc{{W: "1"}}, api.MaxArcs/2)},
				api.State{Arcs: slices.Repeat([]api.Arc{{W: "1"}}, api.MaxArcs/2+1)})
		},
		"no final weight": func(m *api.Machine) { m.States[0].Final = " " },
	}
	for name, k := range map[string]int{"0": 0, "4": 4, "-1": -1, "least": math.MinInt, "greatest": math.MaxInt} {
		all["kind "+name] = func(m *api.Machine) { m.Kind = k }
	}
	arc := func(what string, a api.Arc) {
		all["first arc "+what] = func(m *api.Machine) { m.States[0].Arcs = slices.Insert(m.States[0].Arcs, 0, a) }
		all["last arc "+what] = func(m *api.Machine) {
			s := &m.States[len(m.States)-1]
			s.Arcs = append(s.Arcs, a)
		}
	}
	for name, n := range map[string]int{"-1": -1, "least": math.MinInt, "greatest": math.MaxInt, "501": 501, "3000": 3000, "2^32": 1 << 32} {
		arc("in "+name, api.Arc{In: n, W: "1"})
		arc("out "+name, api.Arc{Out: n, W: "1"})
		if n != 501 {
			arc("to "+name, api.Arc{To: n, W: "1"})
			all["start "+name] = func(m *api.Machine) { m.Start = n }
		}
	}
	all["start after the last state"] = func(m *api.Machine) { m.Start = len(m.States) }
	all["arc after the last state"] = func(m *api.Machine) { m.States[0].Arcs = []api.Arc{{W: "1", To: len(m.States)}} }
	for _, w := range samples.NotWeights(kind) {
		arc("weight "+w, api.Arc{W: w})
		all["lead "+w] = func(m *api.Machine) { m.Lead = w }
		if w != "" {
			all["final "+w] = func(m *api.Machine) { m.States[len(m.States)-1].Final = w }
		}
	}
	return all
}

// eachInvalid calls f with machines that are not valid, and what is wrong with them.
func eachInvalid(f func(what string, m api.Machine)) {
	f("zero", api.Machine{})
	for _, kind := range kinds {
		for what, change := range changes(kind) {
			one, some := nothing(kind), example()
			some.Kind, some.States[1].Arcs = kind, []api.Arc{{In: 500, W: "1", To: 2}}
			for _, m := range []api.Machine{one, some} {
				change(&m)
				f(what, m)
			}
		}
	}
}

// P6.1: machines at the limits are valid, and those beyond one are not.
func TestValid(t *testing.T) {
	for what, m := range machines() {
		if !machine.Valid(m) {
			t.Errorf("%s: not valid", what)
		}
	}
	eachInvalid(func(what string, m api.Machine) {
		if machine.Valid(m) {
			t.Errorf("%.50s: valid, with %d states", what, len(m.States))
		}
	})
}

// P6.1: what is wrong in a useless state is wrong, too; a weight of one kind
// need not be one of another kind.
func TestValidExamples(t *testing.T) {
	m := example()
	m.Start = 3
	if machine.Valid(m) {
		t.Error("start 3: valid")
	}
	m = example()
	m.Lead = "inf"
	if machine.Valid(m) {
		t.Error("lead inf: valid")
	}
	m = example()
	m.States[0].Arcs = []api.Arc{{W: "1", To: 3}}
	if machine.Valid(m) {
		t.Error("an arc of a useless state: valid")
	}
	for _, kind := range []int{api.Probability, api.Viterbi} {
		m = example()
		m.Kind = kind
		if machine.Valid(m) {
			t.Errorf("%d: the weight 0 is valid", kind)
		}
	}
}

// P6.1: Same tells machines apart that differ in one place only.
func TestSame(t *testing.T) {
	check := func(what string, a, b api.Machine, want bool) {
		t.Helper()
		if machine.Same(a, b) != want || machine.Same(b, a) != want {
			t.Errorf("%.50s: Same is not %v", what, want)
		}
	}
	for what, m := range machines() {
		check(what, m, samples.Twin(m), true)
	}
	eachInvalid(func(what string, m api.Machine) {
		check(what, m, samples.Twin(m), true)
	})
	for what, change := range map[string]func(m *api.Machine){
		"kind":       func(m *api.Machine) { m.Kind++ },
		"start":      func(m *api.Machine) { m.Start-- },
		"lead":       func(m *api.Machine) { m.Lead += "0" },
		"a state":    func(m *api.Machine) { m.States = append(m.States, api.State{}) },
		"no state":   func(m *api.Machine) { m.States = m.States[:2] },
		"final":      func(m *api.Machine) { m.States[0].Final = "1" },
		"not final":  func(m *api.Machine) { m.States[2].Final = "" },
		"in":         func(m *api.Machine) { m.States[1].Arcs[0].In = -1 },
		"out":        func(m *api.Machine) { m.States[1].Arcs[1].Out++ },
		"weight":     func(m *api.Machine) { m.States[1].Arcs[2].W = "0/1" },
		"to":         func(m *api.Machine) { m.States[1].Arcs[2].To++ },
		"an arc":     func(m *api.Machine) { m.States[2].Arcs = make([]api.Arc, 1) },
		"no arc":     func(m *api.Machine) { m.States[1].Arcs = m.States[1].Arcs[:2] },
		"arcs":       func(m *api.Machine) { slices.Reverse(m.States[1].Arcs) },
		"the states": func(m *api.Machine) { slices.Reverse(m.States) },
	} {
		m := example()
		change(&m)
		check(what, m, example(), false)
		check(what, m, samples.Twin(m), true)
	}
	check("zero", api.Machine{}, example(), false)
	m := nothing(api.Viterbi)
	m.States[0].Arcs = []api.Arc{}
	check("no arcs", m, nothing(api.Viterbi), true)
	check("no states", api.Machine{}, api.Machine{States: []api.State{}}, true)
}

// P6.1: a copy is the same machine, and changing one leaves the other.
func TestClone(t *testing.T) {
	check := func(what string, m api.Machine) {
		t.Helper()
		before, n := samples.Twin(m), machine.Clone(m)
		if !machine.Same(n, m) {
			t.Fatalf("%.50s: the copy differs", what)
		}
		overwrite(n)
		if !machine.Same(m, before) {
			t.Fatalf("%.50s: the machine has changed with the copy", what)
		}
	}
	for what, m := range machines() {
		check(what, m)
		check(what, samples.Twin(m))
	}
	eachInvalid(check)
}

// P6.2: all kinds, and what is none.
func TestNothing(t *testing.T) {
	for _, kind := range kinds {
		m, e := machine.Nothing(kind)
		if !same(m, nothing(kind)) || e != api.OK || !machine.Valid(m) || !machine.Empty(m) {
			t.Errorf("Nothing(%d) = %v, %v", kind, m, e)
		}
		overwrite(m)
		if m, _ = machine.Nothing(kind); !same(m, nothing(kind)) {
			t.Errorf("Nothing(%d) = %v, once it was overwritten", kind, m)
		}
	}
	for _, kind := range []int{0, 4, 5, -1, math.MinInt, math.MaxInt, 1 << 32} {
		if m, e := machine.Nothing(kind); !same(m, api.Machine{}) || e != api.ErrArg {
			t.Errorf("Nothing(%d) = %v, %v", kind, m, e)
		}
	}
}

// overwrite changes all that m's slices have, spare capacity included.
func overwrite(m api.Machine) {
	for i, s := range m.States {
		arcs := s.Arcs[:cap(s.Arcs)]
		for j := range arcs {
			arcs[j] = api.Arc{In: -5, Out: -6, W: "overwritten", To: -7}
		}
		m.States[i].Final = "overwritten"
	}
	clear(m.States[:cap(m.States)])
}
