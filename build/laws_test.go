package build_test

import (
	"math/rand/v2"
	"testing"

	"abugida/api"
	"abugida/build"
	"abugida/machine"
	"abugida/samples"
	"abugida/semi"
)

func union(t *testing.T, a, b api.Machine) api.Machine {
	t.Helper()
	return of(build.Union(a, b)).Done(t)
}

func concat(t *testing.T, a, b api.Machine) api.Machine {
	t.Helper()
	return of(build.Concat(a, b)).Done(t)
}

// P9.8: what is made of acceptors, and of words that are equal.
func TestAcceptors(t *testing.T) {
	r := rand.New(rand.NewPCG(9, 8))
	for _, kind := range kinds {
		eachPair(kind, 200, func(a, b api.Machine) {
			for _, m := range results(t, samples.Acceptor(a), samples.Acceptor(b), "1") {
				if !machine.Acceptor(m) {
					t.Fatalf("%v, %v: %v", a, b, m)
				}
			}
		})
		for range 100 {
			x := word(r, r.IntN(201))
			if m := of(build.Word(kind, x, x, "1")).Done(t, x); !machine.Acceptor(m) {
				t.Fatalf("%v: %v", x, m)
			}
		}
	}
}

// P9.9: the order of the machines in a union does not matter, nor which two of
// three are put together first.
func TestLaws(t *testing.T) {
	for _, kind := range kinds {
		r := rand.New(rand.NewPCG(909, uint64(kind)))
		eachPair(kind, 40, func(a, b api.Machine) {
			c := samples.Random(r.IntN, kind, 1+r.IntN(3), r.IntN(7), true)
			same(t, union(t, a, b), union(t, b, a), a, b)
			same(t, union(t, union(t, a, b), c), union(t, a, union(t, b, c)), a, b, c)
			same(t, concat(t, concat(t, a, b), c), concat(t, a, concat(t, b, c)), a, b, c)
			same(t, concat(t, a, union(t, b, c)), union(t, concat(t, a, b), concat(t, a, c)), a, b, c)
			same(t, concat(t, union(t, a, b), c), union(t, concat(t, a, c), concat(t, b, c)), a, b, c)
		})
	}
}

// P9.10: all powers are the one without factors, and one factor before all powers.
func TestStarLaw(t *testing.T) {
	for _, kind := range kinds {
		empty := of(build.Word(kind, nil, nil, semi.One(kind))).Done(t)
		eachMachine(kind, 100, func(a api.Machine) {
			s := of(build.Star(a)).Done(t)
			same(t, s, union(t, empty, concat(t, a, s)), a)
		})
	}
}

// P9.11: n factors before at most k of them.
func TestRepeatLaw(t *testing.T) {
	for _, kind := range kinds {
		eachMachine(kind, 12, func(a api.Machine) {
			for n := range 4 {
				for k := range 4 {
					first, rest := of(build.Repeat(a, n, n)).Done(t), of(build.Repeat(a, 0, k)).Done(t)
					same(t, concat(t, first, rest), of(build.Repeat(a, n, n+k)).Done(t), n, k, a)
				}
			}
		})
	}
}

// R7: if no weight of the arguments is better than One, none of the result is.
func TestNotBetter(t *testing.T) {
	for _, kind := range []int{api.Tropical, api.Viterbi} {
		eachPair(kind, 200, func(a, b api.Machine) {
			for _, m := range results(t, samples.Bounded(a), samples.Bounded(b), semi.One(kind)) {
				if !samples.IsBounded(m) {
					t.Fatalf("%v, %v: %v", a, b, m)
				}
			}
		})
	}
}
