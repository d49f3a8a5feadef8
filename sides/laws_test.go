package sides_test

import (
	"testing"

	"abugida/api"
	"abugida/closure"
	"abugida/samples"
	"abugida/semi"
	"abugida/sides"
)

// P10.6: twice is not at all, and the outputs are the inputs of the inverse.
func TestTwice(t *testing.T) {
	for _, kind := range kinds {
		eachMachine(kind, 200, func(a api.Machine) {
			inverse := of(sides.Invert(a)).Done(t)
			same(t, of(sides.Invert(inverse)).Done(t), a, "inverted", a)
			same(t, of(sides.Reverse(of(sides.Reverse(a)).Done(t))).Done(t), a, "reversed", a)
			same(t, of(sides.Output(a)).Done(t), of(sides.Input(inverse)).Done(t), "sides", a)
		})
	}
}

// P10.7: the inputs of pairs of words have the values of the first acceptor, times
// the sum of all those of the second one; the outputs likewise.
func TestSidesOfCross(t *testing.T) {
	for _, kind := range kinds {
		eachPair(kind, 200, func(a, b api.Machine) {
			m := of(sides.Cross(a, b)).Done(t)
			samples.Agree(t, relation(t, of(sides.Input(m)).Done(t)), times(t, a, b), "inputs", a, b)
			samples.Agree(t, relation(t, of(sides.Output(m)).Done(t)), times(t, b, a), "outputs", a, b)
		})
	}
}

// times multiplies the values of an acceptor by the sum of all those of another.
func times(t *testing.T, a, b api.Machine) samples.Relation {
	t.Helper()
	total, e := closure.Total(b)
	if e != api.OK {
		t.Fatalf("%v: %v", b, e)
	}
	r := relation(t, a)
	for words, w := range r {
		r[words], _ = semi.Times(a.Kind, w, total)
	}
	return r
}

// P10.8: a symbol becomes another one that the machine does not have, and then
// itself again.
func TestThereAndBack(t *testing.T) {
	for _, kind := range kinds {
		eachMachine(kind, 100, func(a api.Machine) {
			for _, s := range []int{1, 2, 4} {
				for _, other := range []int{3, 500} {
					m := of(sides.Rename(a, []api.Pair{{In: s, Out: other}})).Done(t)
					same(t, of(sides.Rename(m, []api.Pair{{In: other, Out: s}})).Done(t), a, s, other, a)
				}
			}
		})
	}
}

// R7: if no weight of the arguments is better than One, none of the result is.
func TestNotBetter(t *testing.T) {
	for _, kind := range []int{api.Tropical, api.Viterbi} {
		eachPair(kind, 200, func(a, b api.Machine) {
			for _, m := range results(t, samples.Bounded(a), samples.Bounded(b)) {
				if !samples.IsBounded(m) {
					t.Fatalf("%v, %v: %v", a, b, m)
				}
			}
		})
	}
}
