package samples_test

import (
	"testing"

	"abugida/api"
	"abugida/machine"
	"abugida/samples"
)

// counter counts what a test finds wrong.
type counter struct {
	found int
}

func (c *counter) Helper() {}

func (c *counter) Errorf(string, ...any) { c.found++ }

func (c *counter) Fatalf(string, ...any) { c.found++ }

// wrong counts what a check finds wrong.
func wrong(check func(t samples.Test)) int {
	var c counter
	check(&c)
	return c.found
}

// The checks pass what is right, and only that.
func TestChecks(t *testing.T) {
	one := samples.Loop(api.Tropical, "1", "0", samples.Symbol(1, "2", 0))
	two := samples.Loop(api.Tropical, "1", "0", samples.Symbol(1, "3", 0))
	for name, x := range map[string]struct {
		right bool
		check func(t samples.Test)
	}{
		"done":              {true, func(t samples.Test) { samples.Of(one, api.OK).Done(t) }},
		"done, with error":  {false, func(t samples.Test) { samples.Of(one, api.ErrLong).Done(t) }},
		"done, not valid":   {false, func(t samples.Test) { samples.Of(api.Machine{}, api.OK).Done(t) }},
		"fails":             {true, func(t samples.Test) { samples.Of(api.Machine{}, api.ErrArg).Fails(t, api.ErrArg) }},
		"fails otherwise":   {false, func(t samples.Test) { samples.Of(api.Machine{}, api.ErrArg).Fails(t, api.ErrType) }},
		"fails, with more":  {false, func(t samples.Test) { samples.Of(api.Machine{Kind: 1}, api.ErrArg).Fails(t, api.ErrArg) }},
		"gives":             {true, func(t samples.Test) { samples.Gives(t, one, []int{1}, []int{1}, "3") }},
		"gives another one": {false, func(t samples.Test) { samples.Gives(t, one, []int{1}, []int{1}, "2") }},
		"alike":             {true, func(t samples.Test) { samples.Alike(t, one, machine.Clone(one)) }},
		"not alike":         {false, func(t samples.Test) { samples.Alike(t, one, two) }},
		"missing values":    {false, func(t samples.Test) { samples.Agree(t, samples.Relation{}, samples.RelationOf(t, one)) }},
		"spells":            {true, func(t samples.Test) { samples.Spells(t, samples.Row(api.Viterbi, 5), 4) }},
		"spells more":       {false, func(t samples.Test) { samples.Spells(t, samples.Row(api.Viterbi, 5), 4, 4) }},
	} {
		if n := wrong(x.check); n == 0 != x.right {
			t.Errorf("%s: %d times wrong", name, n)
		}
	}
}

// Functions that keep, change or share memory are found.
func TestSeparate(t *testing.T) {
	a, b := samples.Row(api.Viterbi, 3), samples.Row(api.Viterbi, 2)
	calls := 0
	for name, x := range map[string]struct {
		right bool
		make  func(a api.Machine) api.Machine
	}{
		"copies": {true, machine.Clone},
		"keeps":  {false, func(a api.Machine) api.Machine { return a }},
		"keeps arcs": {false, func(a api.Machine) api.Machine {
			m := machine.Clone(a)
			m.States[0].Arcs = a.States[0].Arcs
			return m
		}},
		"changes": {false, func(a api.Machine) api.Machine {
			m := machine.Clone(a)
			a.States[1].Arcs[0].W = "3"
			return m
		}},
		"changes what is behind": {false, func(a api.Machine) api.Machine {
			m := machine.Clone(a)
			_ = append(a.States, api.State{})
			return m
		}},
		"shares": {false, func(a api.Machine) api.Machine {
			m := machine.Clone(a)
			m.States[1].Arcs = m.States[0].Arcs
			return m
		}},
		"shares what is behind": {false, func(a api.Machine) api.Machine {
			m := machine.Clone(a)
			l := []api.Arc{m.States[0].Arcs[0], m.States[1].Arcs[0]}
			m.States[0].Arcs, m.States[1].Arcs = l[:1], l[1:]
			return m
		}},
		"is not the same": {false, func(a api.Machine) api.Machine {
			calls++
			return samples.Row(a.Kind, calls)
		}},
	} {
		n := wrong(func(t samples.Test) {
			samples.Separate(t, a, b, func(a, b api.Machine) []api.Machine {
				return []api.Machine{x.make(a), x.make(a)}
			})
		})
		if n == 0 != x.right {
			t.Errorf("%s: %d times wrong", name, n)
		}
	}
}

// Weights that are better than One are found, and replaced.
func TestBounded(t *testing.T) {
	for _, m := range []api.Machine{
		samples.Loop(api.Tropical, "-1", "0"),
		samples.Loop(api.Tropical, "0", "-1/2"),
		samples.Loop(api.Viterbi, "1", "1", samples.Symbol(1, "3/2", 0)),
	} {
		if samples.IsBounded(m) || !samples.IsBounded(samples.Bounded(m)) || samples.IsBounded(m) {
			t.Errorf("%v", m)
		}
	}
	for _, m := range []api.Machine{
		samples.Loop(api.Tropical, "0", "7", samples.Symbol(1, "1/2", 0)),
		samples.Loop(api.Viterbi, "1", "1/2", samples.Symbol(1, "1/9", 0)),
	} {
		if !samples.IsBounded(m) || !machine.Same(samples.Bounded(m), m) {
			t.Errorf("%v", m)
		}
	}
}
