package compose_test

import (
	"math/rand/v2"
	"testing"

	"abugida/api"
	"abugida/compose"
	"abugida/samples"
	"abugida/semi"
	"abugida/sides"
)

// P11.4: no word between is better than the sum over all of them.
func TestWordBetween(t *testing.T) {
	for _, kind := range kinds {
		eachCyclic(kind, 60, 3, func(a, b api.Machine) {
			p, q := relation(t, a), relation(t, b)
			all := relation(t, of(compose.Compose(a, b)).Done(t))
			for words, w := range all {
				for _, z := range samples.Words(2) {
					v := times(kind, p[[2]string{words[0], samples.Text(z)}], q[[2]string{samples.Text(z), words[1]}])
					if semi.Better(kind, v, w) < 0 {
						t.Fatalf("%v, %v: %s by %v has %s, not %s", a, b, words, z, w, v)
					}
				}
			}
		})
	}
}

// P11.5: which two of three machines are composed first does not matter.
func TestAssociation(t *testing.T) {
	for _, kind := range kinds {
		r := rand.New(rand.NewPCG(115, uint64(kind)))
		eachCyclic(kind, 60, 2, func(a, b api.Machine) {
			c := samples.Random(r.IntN, kind, 1+r.IntN(3), 4+r.IntN(9), true)
			left := of(compose.Compose(of(compose.Compose(a, b)).Done(t), c)).Done(t)
			right := of(compose.Compose(a, of(compose.Compose(b, c)).Done(t))).Done(t)
			same(t, left, right, a, b, c)
		})
	}
}

// P11.6: the inverse goes the other way through the inverses.
func TestInverse(t *testing.T) {
	invert := func(m api.Machine) api.Machine { return of(sides.Invert(m)).Done(t) }
	for _, kind := range kinds {
		visit := func(a, b api.Machine) {
			forwards := of(compose.Compose(a, b)).Done(t)
			backwards := of(compose.Compose(invert(b), invert(a))).Done(t)
			same(t, invert(forwards), backwards, a, b)
		}
		eachPair(kind, 100, 4, visit)
		eachCyclic(kind, 50, 3, visit)
	}
}

// P11.7: acceptors are intersected by their composition.
func TestAcceptors(t *testing.T) {
	for _, kind := range kinds {
		eachTwo(kind, 200, 4, func(a, b api.Machine) {
			both := relation(t, of(compose.Intersect(a, b)).Done(t))
			for words, w := range relation(t, of(compose.Compose(a, b)).Done(t)) {
				want := semi.Zero(kind)
				if words[0] == words[1] {
					want = both[words]
				}
				if w != want {
					t.Fatalf("%v, %v: %s has %s, not %s", a, b, words, w, want)
				}
			}
		})
	}
}

// P11.3: the machine of one input is the composition of its word with the machine, so
// the sum over all its outputs is the input's value.
func TestAfterAll(t *testing.T) {
	for _, kind := range kinds {
		eachCyclic(kind, 40, 3, func(a, b api.Machine) {
			all := of(compose.Compose(a, b)).Done(t)
			for _, x := range samples.Words(2) {
				after := of(compose.Compose(of(compose.After(x, a)).Done(t), b)).Done(t)
				same(t, after, of(compose.After(x, all)).Done(t), x, a, b)
			}
		})
	}
}

// R7: if no weight of the arguments is better than One, none of the result is.
func TestNotBetter(t *testing.T) {
	for _, kind := range []int{api.Tropical, api.Viterbi} {
		eachTwo(kind, 200, 4, func(a, b api.Machine) {
			for _, m := range results(t, samples.Bounded(a), samples.Bounded(b)) {
				if !samples.IsBounded(m) {
					t.Fatalf("%v, %v: %v", a, b, m)
				}
			}
		})
		eachPair(kind, 200, 4, func(a, b api.Machine) {
			if m := of(compose.Compose(samples.Bounded(a), samples.Bounded(b))).Done(t); !samples.IsBounded(m) {
				t.Fatalf("%v, %v: %v", a, b, m)
			}
		})
	}
}
