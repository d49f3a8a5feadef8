package build_test

import (
	"math/rand/v2"
	"slices"
	"testing"

	"abugida/api"
	"abugida/build"
	"abugida/samples"
	"abugida/semi"
)

// P9.3: results at the limits, and beyond them.
func TestUnionLimit(t *testing.T) {
	for _, kind := range kinds {
		samples.Spells(t, of(build.Union(row(kind, 1), row(kind, 2998))).Done(t), 0, 2997)
		samples.Spells(t, of(build.Union(row(kind, 1500), row(kind, 1499))).Done(t), 1498, 1499)
		of(build.Union(row(kind, 1500), row(kind, 1500))).Fails(t, api.ErrLong)
		of(build.Union(row(kind, 3000), row(kind, 3000))).Fails(t, api.ErrLong)
		m := of(build.Union(bunch(kind, 20000, 1), bunch(kind, 9998, 1))).Done(t)
		if n := samples.Arcs(m); n != 30000 {
			t.Errorf("%d arcs", n)
		}
		of(build.Union(bunch(kind, 20000, 1), bunch(kind, 9999, 1))).Fails(t, api.ErrLong)
		of(build.Union(bunch(kind, 30000, 3000), bunch(kind, 30000, 3000))).Fails(t, api.ErrLong)
		other := bunch(kind%3+1, 30000, 3000)
		of(build.Union(bunch(kind, 30000, 3000), other)).Fails(t, api.ErrType)
	}
}

// P9.4: results at the limits, and beyond them.
func TestConcatLimit(t *testing.T) {
	for _, kind := range kinds {
		samples.Spells(t, of(build.Concat(row(kind, 1), row(kind, 2999))).Done(t), 2998)
		samples.Spells(t, of(build.Concat(row(kind, 2000), row(kind, 1000))).Done(t), 2998)
		of(build.Concat(row(kind, 2000), row(kind, 1001))).Fails(t, api.ErrLong)
		m := of(build.Concat(bunch(kind, 20000, 10), bunch(kind, 9990, 1))).Done(t)
		if n := samples.Arcs(m); n != 30000 {
			t.Errorf("%d arcs", n)
		}
		// Final states of the second machine do not count.
		of(build.Concat(bunch(kind, 9990, 1), bunch(kind, 20000, 10))).Done(t)
		of(build.Concat(bunch(kind, 20000, 11), bunch(kind, 9990, 1))).Fails(t, api.ErrLong)
		of(build.Concat(bunch(kind, 20001, 10), bunch(kind, 9990, 1))).Fails(t, api.ErrLong)
		of(build.Concat(row(kind, 3000), row(kind%3+1, 3000))).Fails(t, api.ErrType)
	}
}

// P9.5: results at the limits, and beyond them.
func TestStarLimit(t *testing.T) {
	for _, kind := range kinds {
		m := of(build.Star(row(kind, 2999))).Done(t)
		gone := samples.Paths(m, 5000)
		if len(gone) != 2 || len(gone[0].X) != 0 || len(gone[1].X) != 2998 {
			t.Errorf("%d: %d paths", kind, len(gone))
		}
		of(build.Star(row(kind, 3000))).Fails(t, api.ErrLong)
		of(build.Star(bunch(kind, 29900, 99))).Done(t)
		of(build.Star(bunch(kind, 29900, 100))).Fails(t, api.ErrLong)
		of(build.Star(bunch(kind, 29901, 99))).Fails(t, api.ErrLong)
	}
}

// P9.6: results at the limits, and beyond them; no factors are never too many.
func TestRepeatLimit(t *testing.T) {
	for _, kind := range kinds {
		// 31 and 30 times 98 states.
		samples.Spells(t, of(build.Repeat(row(kind, 98), 30, 30)).Done(t), 30*97)
		of(build.Repeat(row(kind, 99), 30, 30)).Fails(t, api.ErrLong)
		samples.Spells(t, of(build.Repeat(row(kind, 2998), 1, 1)).Done(t), 2997)
		of(build.Repeat(row(kind, 2999), 1, 1)).Fails(t, api.ErrLong)
		m := of(build.Repeat(bunch(kind, 997, 2), 0, 30)).Done(t)
		if n := samples.Arcs(m); n != 30000 {
			t.Errorf("%d arcs", n)
		}
		of(build.Repeat(bunch(kind, 997, 3), 0, 30)).Fails(t, api.ErrLong)
		of(build.Repeat(bunch(kind, 998, 2), 0, 30)).Fails(t, api.ErrLong)
		samples.Spells(t, of(build.Repeat(bunch(kind, 30000, 3000), 0, 0)).Done(t), 0)
		of(build.Repeat(bunch(kind, 30000, 3000), 2, 1)).Fails(t, api.ErrArg)
	}
}

// P9.7: the largest machines for which the bound is not exceeded.
func TestScaleLimit(t *testing.T) {
	for _, kind := range kinds {
		m := of(build.Scale(row(kind, 2999), "2")).Done(t)
		if l := samples.Paths(m, 3000); len(l) != 1 || l[0].W != "2" {
			t.Errorf("%d: %d paths", kind, len(l))
		}
		of(build.Scale(bunch(kind, 29999, 1), "2")).Done(t)
	}
}

// P9.4, P9.7: products that are too long, and long ones that are not.
func TestLongNumbers(t *testing.T) {
	for _, kind := range kinds {
		for _, w := range samples.Longest(kind) {
			m := samples.Loop(kind, w, w, samples.Symbol(1, w, 0))
			word := of(build.Word(kind, []int{1}, nil, w)).Done(t)
			of(build.Concat(m, word)).Fails(t, api.ErrLong)
			of(build.Concat(word, m)).Fails(t, api.ErrLong)
			of(build.Scale(m, w)).Fails(t, api.ErrLong)
			if kind == api.Tropical {
				continue
			}
			inverse, _ := semi.Over(kind, semi.One(kind), w)
			n := of(build.Scale(word, inverse)).Done(t)
			samples.Gives(t, n, []int{1}, nil, semi.One(kind))
			n = of(build.Concat(word, of(build.Word(kind, []int{2}, nil, inverse)).Done(t))).Done(t)
			samples.Gives(t, n, []int{1, 2}, nil, semi.One(kind))
		}
	}
}

// P9.3, P9.5, P9.6: nothing is computed with weights, however long they are.
func TestLongWeights(t *testing.T) {
	for _, kind := range kinds {
		for _, w := range samples.Longest(kind) {
			m := samples.Loop(kind, w, w, samples.Symbol(1, w, 0))
			of(build.Union(m, m)).Done(t)
			of(build.Star(m)).Done(t)
			of(build.Repeat(m, 2, 30)).Done(t)
		}
	}
}

// R9: no number is too long for little arguments.
func TestLittle(t *testing.T) {
	r := rand.New(rand.NewPCG(9, 9))
	for i := range 500 {
		kind := kinds[i%3]
		a, b := samples.Little(r.IntN, kind, 2, 5), samples.Little(r.IntN, kind, 3, 5)
		results(t, a, b, a.Lead)
		of(build.Repeat(b, 0, 30)).Done(t)
	}
}

// results are the machines that the functions make of two.
func results(t *testing.T, a, b api.Machine, w string) []api.Machine {
	return []api.Machine{
		of(build.Union(a, b)).Done(t),
		of(build.Concat(a, b)).Done(t),
		of(build.Star(a)).Done(t),
		of(build.Repeat(a, 0, 3)).Done(t),
		of(build.Repeat(a, 2, 2)).Done(t),
		of(build.Scale(a, w)).Done(t),
	}
}

// R4: the arguments stay as they are, with their spare capacity, also when all of
// a result is overwritten; no two slices of a result share memory.
func TestMemory(t *testing.T) {
	for _, kind := range kinds {
		eachPair(kind, 100, func(a, b api.Machine) {
			samples.Separate(t, a, b, func(a, b api.Machine) []api.Machine { return results(t, a, b, "1") })
		})
	}
	x, y := append(make([]int, 0, 5), 1, 2), append(make([]int, 0, 5), 2)
	build.Word(api.Tropical, x, y, "1")
	build.Letters(api.Tropical, x)
	if !slices.Equal(x[:5], []int{1, 2, 0, 0, 0}) || !slices.Equal(y[:5], []int{2, 0, 0, 0, 0}) {
		t.Fatalf("%v, %v have been changed", x, y)
	}
}
