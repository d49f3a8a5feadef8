package build_test

import (
	"math"
	"testing"

	"abugida/api"
	"abugida/build"
	"abugida/samples"
)

// P9.1 to P9.7: the chapter's examples.
func TestExamples(t *testing.T) {
	a, b := one(t), two(t)
	u := of(build.Union(a, b)).Done(t)
	samples.Gives(t, u, []int{1}, []int{2}, "3")
	samples.Gives(t, u, []int{1}, []int{1}, "inf")
	samples.Gives(t, of(build.Concat(a, b)).Done(t), []int{1, 1}, []int{2, 2}, "8")
	s := of(build.Star(a)).Done(t)
	samples.Gives(t, s, nil, nil, "0")
	samples.Gives(t, s, []int{1, 1}, []int{2, 2}, "6")
	samples.Gives(t, s, []int{1}, nil, "inf")
	r := of(build.Repeat(a, 2, 3)).Done(t)
	samples.Gives(t, r, []int{1}, []int{2}, "inf")
	samples.Gives(t, r, []int{1, 1}, []int{2, 2}, "6")
	samples.Gives(t, of(build.Scale(a, "1/2")).Done(t), []int{1}, []int{2}, "7/2")
	l := of(build.Letters(api.Tropical, []int{2, 1, 2})).Done(t)
	samples.Gives(t, l, []int{2}, []int{2}, "0")
	samples.Gives(t, l, []int{1, 2}, []int{1, 2}, "inf")
	of(build.Word(api.Tropical, []int{0}, nil, "0")).Fails(t, api.ErrArg)
	of(build.Letters(api.Tropical, []int{501})).Fails(t, api.ErrArg)
	other := of(build.Word(api.Viterbi, []int{1}, []int{2}, "3")).Done(t)
	of(build.Union(a, other)).Fails(t, api.ErrType)
	of(build.Repeat(a, 2, 1)).Fails(t, api.ErrArg)
	half := of(build.Word(api.Probability, nil, nil, "1/2")).Done(t)
	samples.Gives(t, of(build.Star(half)).Done(t), nil, nil, "2")
	samples.Gives(t, of(build.Word(api.Tropical, []int{1, 2}, []int{3}, "5")).Done(t), []int{1, 2}, []int{3}, "5")
}

// P9.3, P9.4: unions and concatenations of many machines.
func TestPairs(t *testing.T) {
	for _, kind := range kinds {
		eachPair(kind, 150, func(a, b api.Machine) {
			p, q := relation(t, a), relation(t, b)
			u := of(build.Union(a, b)).Done(t, a, b)
			samples.Agree(t, relation(t, u), sum(kind, p, q), "union", a, b)
			c := of(build.Concat(a, b)).Done(t, a, b)
			samples.Agree(t, relation(t, c), product(kind, p, q), "concatenation", a, b)
			if u.Kind != kind || c.Kind != kind {
				t.Fatalf("kinds %d, %d, not %d", u.Kind, c.Kind, kind)
			}
		})
	}
}

// P9.3, P9.4: a machine with itself.
func TestItself(t *testing.T) {
	for _, kind := range kinds {
		eachMachine(kind, 100, func(a api.Machine) {
			p := relation(t, a)
			samples.Agree(t, relation(t, of(build.Union(a, a)).Done(t)), sum(kind, p, p), "union", a)
			samples.Agree(t, relation(t, of(build.Concat(a, a)).Done(t)), product(kind, p, p), "concatenation", a)
		})
	}
}

// P9.5: all powers of many machines, those with infinite sums among them.
func TestStar(t *testing.T) {
	for _, kind := range kinds {
		infinite := 0
		eachMachine(kind, 250, func(a api.Machine) {
			m := of(build.Star(a)).Done(t, a)
			got := relation(t, m)
			samples.Agree(t, got, allPowers(kind, relation(t, a)), "star", a)
			if w := got[[2]string{}]; m.Kind != kind {
				t.Fatalf("kind %d, not %d", m.Kind, kind)
			} else if w == "inf" || w == "-inf" {
				infinite++
			}
		})
		if infinite < 10 {
			t.Errorf("%d: only %d infinite sums", kind, infinite)
		}
	}
}

// P9.5: the powers of a machine whose value for the empty words is One, and of one
// whose only path is shorter than any other one could be.
func TestStarOfEmptyWords(t *testing.T) {
	for _, x := range []struct {
		kind    int
		w, want string
	}{
		{api.Tropical, "0", "0"},
		{api.Tropical, "3", "0"},
		{api.Tropical, "-1/2", "-inf"},
		{api.Probability, "1/3", "3/2"},
		{api.Probability, "1", "inf"},
		{api.Viterbi, "1", "1"},
		{api.Viterbi, "1/2", "1"},
		{api.Viterbi, "3/2", "inf"},
	} {
		m := of(build.Word(x.kind, nil, nil, x.w)).Done(t)
		samples.Gives(t, of(build.Star(m)).Done(t), nil, nil, x.want)
	}
}

// P9.6: some powers of many machines.
func TestRepeat(t *testing.T) {
	for _, kind := range kinds {
		eachMachine(kind, 25, func(a api.Machine) {
			p := relation(t, a)
			for n := range 5 {
				for most := n; most < 5; most++ {
					m := of(build.Repeat(a, n, most)).Done(t, a, n, most)
					if m.Kind != kind {
						t.Fatalf("kind %d, not %d", m.Kind, kind)
					}
					samples.Agree(t, relation(t, m), powers(kind, p, n, most), "repeat", n, most, a)
				}
			}
		})
	}
}

// P9.6: all numbers of factors that are allowed: a word of one symbol is repeated
// as often as the symbol is there.
func TestRepeatNumbers(t *testing.T) {
	a := of(build.Word(api.Viterbi, []int{1}, []int{2}, "1")).Done(t)
	for n := range 31 {
		for most := n; most <= 30; most++ {
			m := of(build.Repeat(a, n, most)).Done(t, n, most)
			l := samples.Paths(m, 200)
			if len(l) != most-n+1 {
				t.Fatalf("%d, %d: %d paths", n, most, len(l))
			}
			for _, p := range l {
				if len(p.X) < n || len(p.X) > most || len(p.Y) != len(p.X) || p.W != "1" {
					t.Fatalf("%d, %d: %v", n, most, p)
				}
			}
		}
	}
	for _, x := range [][2]int{{-1, 0}, {-1, -1}, {1, 0}, {2, 1}, {0, 31}, {31, 31}, {30, 29}, {0, math.MaxInt}, {math.MaxInt, math.MaxInt}, {math.MinInt, 5}, {0, -1}} {
		of(build.Repeat(a, x[0], x[1])).Fails(t, api.ErrArg, x)
	}
}

// P9.7: each weight with many machines.
func TestScale(t *testing.T) {
	for _, kind := range kinds {
		eachMachine(kind, 100, func(a api.Machine) {
			p := relation(t, a)
			for _, w := range samples.Weights(kind) {
				want := samples.Relation{}
				for words, v := range p {
					want[words] = times(kind, w, v)
				}
				m := of(build.Scale(a, w)).Done(t, a, w)
				if m.Kind != kind {
					t.Fatalf("kind %d, not %d", m.Kind, kind)
				}
				samples.Agree(t, relation(t, m), want, "scale", w, a)
			}
		})
		for _, w := range samples.NotWeights(kind) {
			of(build.Scale(samples.Loop(kind, "1", "1"), w)).Fails(t, api.ErrArg, w)
		}
	}
}

// P9.3 to P9.7: machines that are not valid, on each side; they are found before
// different kinds.
func TestWrongMachines(t *testing.T) {
	for _, kind := range kinds {
		good := samples.Chain(kind, 2, samples.Symbol(1, "1", 0))
		for _, bad := range samples.Broken(good) {
			of(build.Union(bad, good)).Fails(t, api.ErrArg, bad)
			of(build.Union(good, bad)).Fails(t, api.ErrArg, bad)
			of(build.Concat(bad, good)).Fails(t, api.ErrArg, bad)
			of(build.Concat(good, bad)).Fails(t, api.ErrArg, bad)
			of(build.Star(bad)).Fails(t, api.ErrArg, bad)
			of(build.Repeat(bad, 0, 0)).Fails(t, api.ErrArg, bad)
			of(build.Repeat(bad, 1, 2)).Fails(t, api.ErrArg, bad)
			of(build.Scale(bad, "1")).Fails(t, api.ErrArg, bad)
		}
		for _, other := range kinds {
			if other == kind {
				continue
			}
			m := samples.Loop(other, "1", "1")
			of(build.Union(good, m)).Fails(t, api.ErrType, kind, other)
			of(build.Concat(good, m)).Fails(t, api.ErrType, kind, other)
			m.States[0].Final = "?"
			of(build.Union(good, m)).Fails(t, api.ErrArg, kind, other)
			of(build.Concat(m, good)).Fails(t, api.ErrArg, kind, other)
		}
	}
}
