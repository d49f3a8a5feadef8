package sides_test

import (
	"math/rand/v2"
	"slices"
	"testing"

	"abugida/api"
	"abugida/samples"
	"abugida/semi"
	"abugida/sides"
)

// P10.1, P10.2, P10.5: the largest machines, with the longest weights.
func TestLargest(t *testing.T) {
	for _, kind := range kinds {
		m := bunch(kind, 30000, 3000)
		for _, w := range append(samples.Longest(kind), semi.One(kind)) {
			m.Lead = w
			for i, s := range m.States {
				m.States[i].Final = w
				for j := range s.Arcs {
					s.Arcs[j].W = w
				}
			}
			of(sides.Invert(m)).Done(t)
			of(sides.Input(m)).Done(t)
			of(sides.Output(m)).Done(t)
			of(sides.Rename(m, []api.Pair{{In: 1, Out: 2}, {In: 2}})).Done(t)
		}
	}
}

// P10.3: results at the limits, and beyond them.
func TestReverseLimit(t *testing.T) {
	for _, kind := range kinds {
		samples.Spells(t, of(sides.Reverse(row(kind, 2999))).Done(t), 2998)
		of(sides.Reverse(row(kind, 3000))).Fails(t, api.ErrLong)
		of(sides.Reverse(bunch(kind, 29999, 1))).Done(t)
		of(sides.Reverse(bunch(kind, 30000, 1))).Fails(t, api.ErrLong)
		of(sides.Reverse(bunch(kind, 27001, 2999))).Done(t)
		of(sides.Reverse(bunch(kind, 27002, 2999))).Fails(t, api.ErrLong)
		for _, w := range samples.Longest(kind) {
			m := samples.Loop(kind, w, w, samples.Symbol(1, w, 0))
			of(sides.Reverse(m)).Done(t)
		}
	}
}

// P10.4: results at the limits, and beyond them; the states of the second acceptor
// are not counted with the arcs.
func TestCrossLimit(t *testing.T) {
	for _, kind := range kinds {
		samples.Spells(t, of(sides.Cross(row(kind, 2000), row(kind, 1000))).Done(t), 1999)
		samples.Spells(t, of(sides.Cross(row(kind, 1), row(kind, 2999))).Done(t), 0)
		samples.Spells(t, of(sides.Cross(row(kind, 2999), row(kind, 1))).Done(t), 2998)
		of(sides.Cross(row(kind, 2000), row(kind, 1001))).Fails(t, api.ErrLong)
		of(sides.Cross(row(kind, 3000), row(kind, 1))).Fails(t, api.ErrLong)
		of(sides.Cross(bunch(kind, 20000, 10), bunch(kind, 9990, 2000))).Done(t)
		of(sides.Cross(bunch(kind, 20000, 11), bunch(kind, 9990, 1))).Fails(t, api.ErrLong)
		of(sides.Cross(bunch(kind, 20001, 10), bunch(kind, 9990, 1))).Fails(t, api.ErrLong)
		of(sides.Cross(bunch(kind, 30000, 3000), bunch(kind%3+1, 30000, 3000))).Fails(t, api.ErrType)
		of(sides.Cross(bunch(kind, 30000, 3000), of(sides.Invert(samples.Chain(kind, 3000, api.Arc{In: 1, W: "1"}))).Done(t))).Fails(t, api.ErrType)
	}
}

// P10.4: products that are too long, and long weights that are not multiplied.
func TestCrossLong(t *testing.T) {
	for _, kind := range kinds {
		one := semi.One(kind)
		for _, w := range samples.Longest(kind) {
			a := samples.Loop(kind, w, one)
			of(sides.Cross(a, a)).Fails(t, api.ErrLong)
			b := samples.Loop(kind, one, w, samples.Symbol(1, w, 0))
			of(sides.Cross(a, b)).Done(t)
			of(sides.Cross(b, b)).Done(t)
			gives(t, of(sides.Cross(a, samples.Loop(kind, one, one))).Done(t), nil, nil, w)
		}
	}
}

// R9: no number is too long for little arguments.
func TestLittle(t *testing.T) {
	r := rand.New(rand.NewPCG(10, 9))
	for i := range 500 {
		kind := kinds[i%3]
		a, b := samples.Little(r.IntN, kind, 2, 5), samples.Little(r.IntN, kind, 3, 5)
		results(t, samples.Acceptor(a), samples.Acceptor(b))
	}
}

// R4: the arguments stay as they are, with their spare capacity, also when all of
// a result is overwritten; no two slices of a result share memory.
func TestMemory(t *testing.T) {
	for _, kind := range kinds {
		eachPair(kind, 100, func(a, b api.Machine) {
			samples.Separate(t, a, b, func(a, b api.Machine) []api.Machine { return results(t, a, b) })
		})
	}
	l := append(make([]api.Pair, 0, 3), api.Pair{In: 1, Out: 2})
	sides.Rename(row(api.Tropical, 3), l)
	if !slices.Equal(l[:3], []api.Pair{{In: 1, Out: 2}, {}, {}}) {
		t.Fatalf("%v has been changed", l)
	}
}
