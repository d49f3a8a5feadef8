package machine_test

import (
	"math/rand/v2"
	"slices"
	"testing"

	"abugida/api"
	"abugida/machine"
	"abugida/samples"
)

// change is Trim or Canon.
type change struct {
	name string
	f    func(m api.Machine) (api.Machine, api.Errno)
	want func(m api.Machine) api.Machine
}

func orders() []change {
	return []change{{"Trim", machine.Trim, trimmed}, {"Canon", machine.Canon, ordered}}
}

// eachSmall calls f with many machines of few states: all samples of them, and
// random ones.
func eachSmall(f func(what string, m api.Machine)) {
	for what, m := range machines() {
		if len(m.States) < 10 && len(m.States[0].Arcs) < 20 {
			f(what, m)
		}
	}
	r := rand.New(rand.NewPCG(6, 2))
	for range 3000 {
		f("random", random(r, 1+r.IntN(7), r.IntN(16)))
		f("random acceptor", acceptor(r, 1+r.IntN(6)))
	}
}

// eachTiny calls f with all machines of two states, at most two arcs from each,
// and few symbols and weights.
func eachTiny(f func(m api.Machine)) {
	lists := [][]api.Arc{nil}
	var arcs []api.Arc
	for i := range 8 {
		arcs = append(arcs, api.Arc{In: 1 + i&1, Out: 1, W: []string{"1", "2"}[i>>1&1], To: i >> 2})
	}
	for i, a := range arcs {
		lists = append(lists, []api.Arc{a})
		for _, b := range arcs[i:] {
			lists = append(lists, []api.Arc{a, b}, []api.Arc{b, a})
		}
	}
	for _, a := range lists {
		for _, b := range lists {
			for final := range 4 {
				finals := [...]string{"", "1"}
				f(api.Machine{Kind: api.Tropical, Start: len(a) % 2, Lead: "1", States: []api.State{
					{Final: finals[final&1], Arcs: a}, {Final: finals[final>>1], Arcs: b},
				}})
			}
		}
	}
}

// P6.3: the examples.
func TestOrderExamples(t *testing.T) {
	check := func(x change, m, want api.Machine) {
		t.Helper()
		if n, e := x.f(m); !same(n, want) || e != api.OK {
			t.Errorf("%s: %v, %v", x.name, n, e)
		}
	}
	want := api.Machine{Kind: api.Tropical, Lead: "2", States: []api.State{
		{Arcs: []api.Arc{{In: 2, Out: 2, W: "1", To: 1}, {In: 1, Out: 1, W: "0", To: 1}}}, {Final: "3"},
	}}
	check(orders()[0], example(), want)
	slices.Reverse(want.States[0].Arcs)
	check(orders()[1], example(), want)
	m := example()
	m.States[2].Final = ""
	for _, x := range orders() {
		check(x, m, nothing(api.Tropical))
	}
}

// P6.3: arcs that differ only in one of In, Out, W and To, in this order; W is
// compared byte by byte, and To with the new numbers.
func TestOrderOfArcs(t *testing.T) {
	m := api.Machine{Kind: api.Viterbi, Lead: "1", States: []api.State{
		{Final: "1", Arcs: []api.Arc{
			{In: 2, Out: 0, W: "1", To: 1}, {In: 1, Out: 500, W: "1", To: 1}, {In: 1, Out: 2, W: "9", To: 1},
			{In: 1, Out: 2, W: "10", To: 2}, {In: 1, Out: 2, W: "10", To: 3}, {In: 1, Out: 2, W: "1/3", To: 3},
		}},
		{Final: "1"},
		{Final: "2"},
		{Final: "3"},
	}}
	// 1/3 comes before 10 and 10 before 9. So state 3 has the number 1, state 2
	// the number 2, and state 1 the number 3.
	want := api.Machine{Kind: api.Viterbi, Lead: "1", States: []api.State{
		{Final: "1", Arcs: []api.Arc{
			{In: 1, Out: 2, W: "1/3", To: 1}, {In: 1, Out: 2, W: "10", To: 1}, {In: 1, Out: 2, W: "10", To: 2},
			{In: 1, Out: 2, W: "9", To: 3}, {In: 1, Out: 500, W: "1", To: 3}, {In: 2, Out: 0, W: "1", To: 3},
		}},
		{Final: "3"},
		{Final: "2"},
		{Final: "1"},
	}}
	if n, e := machine.Canon(m); !same(n, want) || e != api.OK {
		t.Errorf("%v, %v", n, e)
	}
}

// P6.3: Trim and Canon do what the definitions say.
func TestOrders(t *testing.T) {
	for _, x := range orders() {
		check := func(what string, m api.Machine) {
			if n, e := x.f(m); !same(n, x.want(m)) || e != api.OK {
				t.Fatalf("%s of %s %v: %v, %v", x.name, what, m, n, e)
			}
		}
		eachSmall(check)
		eachTiny(func(m api.Machine) { check("tiny", m) })
	}
}

// P6.3: what is not a machine.
func TestOrdersInvalid(t *testing.T) {
	for _, x := range orders() {
		eachInvalid(func(what string, m api.Machine) {
			if n, e := x.f(m); !same(n, api.Machine{}) || e != api.ErrArg {
				t.Errorf("%s of %.50s: %v", x.name, what, e)
			}
		})
	}
}

// P6.3: machines at the limits.
func TestOrdersLarge(t *testing.T) {
	m := chain(api.MaxStates)
	for _, x := range orders() {
		if n, e := x.f(m); !same(n, m) || e != api.OK {
			t.Errorf("%s of a chain: %v", x.name, e)
		}
	}
	// The last state is reached from the others, but reaches none of them.
	m.Start = api.MaxStates - 1
	end := api.Machine{Kind: api.Tropical, Lead: "0", States: []api.State{{Final: "1"}}}
	for _, x := range orders() {
		if n, e := x.f(m); !same(n, end) || e != api.OK {
			t.Errorf("%s of the end of a chain: %v", x.name, e)
		}
	}
	r := rand.New(rand.NewPCG(6, 3))
	back := renumbered(r, chain(api.MaxStates))
	if n, e := machine.Canon(back); !same(n, chain(api.MaxStates)) || e != api.OK {
		t.Errorf("Canon of a renumbered chain: %v", e)
	}
	for _, m := range []api.Machine{fan(1, api.MaxArcs), fan(api.MaxStates, api.MaxArcs/api.MaxStates)} {
		n, e := machine.Canon(m)
		if e != api.OK || !machine.Valid(n) {
			t.Errorf("Canon of a fan: %v", e)
		}
		for _, s := range n.States {
			if !slices.IsSortedFunc(s.Arcs, compareArcs) {
				t.Fatal("the arcs are not sorted")
			}
		}
	}
}

// R4: arguments stay as they are, with their spare capacity, and results share
// no memory with them.
func TestMemory(t *testing.T) {
	for _, x := range orders() {
		eachSmall(func(what string, m api.Machine) {
			m = samples.Twin(m)
			before := text(samples.Whole(m))
			n, e := x.f(m)
			overwrite(n)
			if e != api.OK || text(samples.Whole(m)) != before {
				t.Fatalf("%s of %s: %v, and the argument has changed to %v", x.name, what, e, m)
			}
		})
	}
}

// P6.4: the properties change nothing, either.
func TestMemoryOfProperties(t *testing.T) {
	eachSmall(func(what string, m api.Machine) {
		m = samples.Twin(m)
		before := text(samples.Whole(m))
		machine.Valid(m)
		machine.Same(m, m)
		machine.Acceptor(m)
		machine.Quiet(m)
		machine.Deterministic(m)
		machine.Empty(m)
		machine.Sigma(m)
		if text(samples.Whole(m)) != before {
			t.Fatalf("%s: the argument has changed to %v", what, m)
		}
	})
}
