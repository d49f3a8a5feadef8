package weigh_test

import (
	"math/rand/v2"
	"testing"

	"abugida/api"
	"abugida/machine"
	"abugida/samples"
	"abugida/semi"
	"abugida/weigh"
)

// eachPair visits random machines with pairs of words.
func eachPair(kind int, visit func(m api.Machine, x, y []int)) {
	r := rand.New(rand.NewPCG(88, uint64(kind)))
	l := samples.Words(4)
	eachMachine(kind, 500, func(m api.Machine) {
		for range 5 {
			visit(m, l[r.IntN(len(l))], l[r.IntN(len(l))])
		}
		visit(m, nil, nil)
	})
}

// P8.5: exactly the pairs without a path have the value Zero.
func TestSupport(t *testing.T) {
	for _, kind := range kinds {
		eachPair(kind, func(m api.Machine, x, y []int) {
			if w := weight(t, m, x, y); (w != semi.Zero(kind)) != hasPath(m, x, y) {
				t.Fatalf("%v of %v, %v: %s", m, x, y, w)
			}
		})
	}
}

// P8.6: trimming and the normal order change no value.
func TestTrimming(t *testing.T) {
	for _, kind := range kinds {
		eachPair(kind, func(m api.Machine, x, y []int) {
			trimmed, _ := machine.Trim(m)
			ordered, _ := machine.Canon(m)
			for _, n := range []api.Machine{trimmed, ordered} {
				if v, w := weight(t, m, x, y), weight(t, n, x, y); v != w {
					t.Fatalf("%v of %v, %v is %s, but %s in %v", m, x, y, v, w, n)
				}
				of(weigh.Domain(n, x)).is(t, domain(t, m, x), api.OK, m, x)
			}
		})
	}
}

func domain(t *testing.T, m api.Machine, x []int) string {
	t.Helper()
	w, e := weigh.Domain(m, x)
	if e != api.OK {
		t.Fatalf("%v of %v: %v", m, x, e)
	}
	return w
}

// P8.7: a factor of Lead is one of all values.
func TestLead(t *testing.T) {
	for _, kind := range kinds {
		eachPair(kind, func(m api.Machine, x, y []int) {
			for _, w := range samples.Weights(kind) {
				n := m
				n.Lead, _ = semi.Times(kind, w, m.Lead)
				want, _ := semi.Times(kind, w, weight(t, m, x, y))
				of(weigh.Weight(n, x, y)).is(t, want, api.OK, m, w, x, y)
				want, _ = semi.Times(kind, w, domain(t, m, x))
				of(weigh.Domain(n, x)).is(t, want, api.OK, m, w, x)
			}
		})
	}
}

// P8.8: the value is a sum over the first arcs of the paths.
func TestFirstArc(t *testing.T) {
	for _, kind := range kinds {
		eachPair(kind, func(m api.Machine, x, y []int) {
			start, sum := m.States[m.Start], semi.Zero(kind)
			if start.Final != "" && len(x)+len(y) == 0 {
				sum = start.Final
			}
			for _, a := range start.Arcs {
				i, j := min(a.In, 1), min(a.Out, 1)
				if i > len(x) || j > len(y) || i == 1 && x[0] != a.In || j == 1 && y[0] != a.Out {
					continue
				}
				rest := m
				rest.Start, rest.Lead = a.To, semi.One(kind)
				w, _ := semi.Times(kind, a.W, weight(t, rest, x[i:], y[j:]))
				sum, _ = semi.Plus(kind, sum, w)
			}
			want, _ := semi.Times(kind, m.Lead, sum)
			of(weigh.Weight(m, x, y)).is(t, want, api.OK, m, x, y)
		})
	}
}
