package build_test

import (
	"math/rand/v2"
	"testing"

	"abugida/api"
	"abugida/build"
	"abugida/machine"
	"abugida/samples"
	"abugida/semi"
)

func union(t *testing.T, a, b api.Machine) api.Machine {
	t.Helper()
	return of(build.Union(a, b)).done(t)
}

func concat(t *testing.T, a, b api.Machine) api.Machine {
	t.Helper()
	return of(build.Concat(a, b)).done(t)
}

// P9.8: what is made of acceptors, and of words that are equal.
func TestAcceptors(t *testing.T) {
	r := rand.New(rand.NewPCG(9, 8))
	for _, kind := range kinds {
		eachPair(kind, 200, func(a, b api.Machine) {
			for _, m := range results(t, samples.Acceptor(a), samples.Acceptor(b), "1") {
				if !machine.Acceptor(m) {
					t.Fatalf("%v, %v: %v", a, b, m)
				}
			}
		})
		for range 100 {
			x := word(r, r.IntN(201))
			if m := of(build.Word(kind, x, x, "1")).done(t, x); !machine.Acceptor(m) {
				t.Fatalf("%v: %v", x, m)
			}
		}
	}
}

// P9.9: the order of the machines in a union does not matter, nor which two of
// three are put together first.
func TestLaws(t *testing.T) {
	for _, kind := range kinds {
		r := rand.New(rand.NewPCG(909, uint64(kind)))
		eachPair(kind, 40, func(a, b api.Machine) {
			c := samples.Random(r.IntN, kind, 1+r.IntN(3), r.IntN(7), true)
			same(t, union(t, a, b), union(t, b, a), a, b)
			same(t, union(t, union(t, a, b), c), union(t, a, union(t, b, c)), a, b, c)
			same(t, concat(t, concat(t, a, b), c), concat(t, a, concat(t, b, c)), a, b, c)
			same(t, concat(t, a, union(t, b, c)), union(t, concat(t, a, b), concat(t, a, c)), a, b, c)
			same(t, concat(t, union(t, a, b), c), union(t, concat(t, a, c), concat(t, b, c)), a, b, c)
		})
	}
}

// P9.10: all powers are the one without factors, and one factor before all powers.
func TestStarLaw(t *testing.T) {
	for _, kind := range kinds {
		empty := of(build.Word(kind, nil, nil, semi.One(kind))).done(t)
		eachMachine(kind, 100, func(a api.Machine) {
			s := of(build.Star(a)).done(t)
			same(t, s, union(t, empty, concat(t, a, s)), a)
		})
	}
}

// P9.11: n factors before at most k of them.
func TestRepeatLaw(t *testing.T) {
	for _, kind := range kinds {
		eachMachine(kind, 12, func(a api.Machine) {
			for n := range 4 {
				for k := range 4 {
					first, rest := of(build.Repeat(a, n, n)).done(t), of(build.Repeat(a, 0, k)).done(t)
					same(t, concat(t, first, rest), of(build.Repeat(a, n, n+k)).done(t), n, k, a)
				}
			}
		})
	}
}

// R7: if no weight of the arguments is better than One, none of the result is.
func TestNotBetter(t *testing.T) {
	for _, kind := range []int{api.Tropical, api.Viterbi} {
		one := semi.One(kind)
		worse := func(w string) bool { return w == "" || semi.Better(kind, w, one) >= 0 }
		cut := func(m api.Machine) api.Machine {
			change := func(w *string) {
				if !worse(*w) {
					*w = one
				}
			}
			m = samples.Twin(m)
			change(&m.Lead)
			for i := range m.States {
				change(&m.States[i].Final)
				for j := range m.States[i].Arcs {
					change(&m.States[i].Arcs[j].W)
				}
			}
			return m
		}
		eachPair(kind, 200, func(a, b api.Machine) {
			for _, m := range results(t, cut(a), cut(b), one) {
				good := worse(m.Lead)
				for _, s := range m.States {
					good = good && worse(s.Final)
					for _, arc := range s.Arcs {
						good = good && worse(arc.W)
					}
				}
				if !good {
					t.Fatalf("%v, %v: %v", a, b, m)
				}
			}
		})
	}
}
