package build_test

import (
	"math"
	"math/rand/v2"
	"slices"
	"testing"

	"abugida/api"
	"abugida/build"
	"abugida/machine"
	"abugida/samples"
	"abugida/semi"
)

// P9.1: a single path, for words of all lengths and with all weights.
func TestWord(t *testing.T) {
	r := rand.New(rand.NewPCG(9, 1))
	check := func(kind int, x, y []int, w string) {
		t.Helper()
		m := of(build.Word(kind, x, y, w)).Done(t, kind, x, y, w)
		most := max(len(x), len(y))
		if m.Kind != kind || len(m.States) > most+1 {
			t.Errorf("%v, %v: kind %d, %d states", x, y, m.Kind, len(m.States))
		}
		l := samples.Paths(m, most+5)
		if len(l) != 1 || !slices.Equal(l[0].X, x) || !slices.Equal(l[0].Y, y) || l[0].W != w {
			t.Fatalf("%v, %v, %.50s: %v", x, y, w, l)
		}
	}
	for _, kind := range kinds {
		for _, x := range samples.Words(3) {
			for _, y := range samples.Words(3) {
				for _, w := range samples.Weights(kind) {
					check(kind, x, y, w)
				}
			}
		}
		for range 300 {
			check(kind, word(r, r.IntN(201)), word(r, r.IntN(201)), semi.One(kind))
		}
		for _, w := range samples.Longest(kind) {
			check(kind, word(r, 200), nil, w)
			check(kind, nil, word(r, 200), w)
			check(kind, word(r, 200), word(r, 200), w)
		}
		check(kind, []int{500}, []int{500, 1}, semi.One(kind))
	}
}

// word returns a word of so many symbols.
func word(r *rand.Rand, symbols int) []int {
	x := make([]int, symbols)
	for i := range x {
		x[i] = 1 + r.IntN(api.MaxSymbols)
	}
	return x
}

// P9.1: the pair of words gets the weight, and all others Zero.
func TestWordValues(t *testing.T) {
	for _, kind := range kinds {
		for _, w := range samples.Weights(kind) {
			for _, x := range samples.Words(2) {
				for _, y := range samples.Words(2) {
					want := product(kind, unit(kind), unit(kind))
					want[[2]string{}] = semi.Zero(kind)
					want[[2]string{samples.Text(x), samples.Text(y)}] = w
					samples.Agree(t, relation(t, of(build.Word(kind, x, y, w)).Done(t)), want, kind, x, y, w)
				}
			}
		}
	}
}

// P9.1: what is no kind, no word or no weight.
func TestWordWrong(t *testing.T) {
	for _, kind := range []int{0, 4, -1, 5, math.MinInt, math.MaxInt, 1<<32 + 1} {
		of(build.Word(kind, []int{1}, []int{1}, "1")).Fails(t, api.ErrArg, kind)
	}
	for _, kind := range kinds {
		for _, x := range samples.NotWords() {
			of(build.Word(kind, x, nil, "1")).Fails(t, api.ErrArg, kind)
			of(build.Word(kind, []int{1}, x, "1")).Fails(t, api.ErrArg, kind)
		}
		for _, w := range samples.NotWeights(kind) {
			of(build.Word(kind, []int{1}, []int{1}, w)).Fails(t, api.ErrArg, kind, w)
		}
	}
}

// P9.2: the words of one symbol that is in the list, each with One.
func TestLetters(t *testing.T) {
	r := rand.New(rand.NewPCG(9, 2))
	check := func(kind int, l []int) {
		t.Helper()
		m := of(build.Letters(kind, l)).Done(t, kind, l)
		if m.Kind != kind || len(m.States) > 2 || !machine.Deterministic(m) {
			t.Errorf("%v: %v", l, m)
		}
		var found []int
		for _, p := range samples.Paths(m, 3) {
			if len(p.X) != 1 || p.W != semi.One(kind) {
				t.Errorf("%v: %v", l, p)
			}
			found = append(found, p.X...)
		}
		slices.Sort(found)
		want := slices.Compact(slices.Sorted(slices.Values(l)))
		if !slices.Equal(found, want) {
			t.Errorf("%v: %v", l, found)
		}
	}
	for _, kind := range kinds {
		check(kind, nil)
		check(kind, []int{})
		check(kind, []int{2, 1, 2})
		check(kind, []int{500})
		check(kind, []int{1, 500, 1})
		check(kind, slices.Repeat([]int{7}, 100000))
		check(kind, word(r, 100000))
		for range 200 {
			check(kind, word(r, r.IntN(300)))
		}
	}
}

// P9.2: what is no kind and no symbol.
func TestLettersWrong(t *testing.T) {
	for _, kind := range []int{0, 4, -1, 5, math.MinInt, math.MaxInt, 1<<32 + 1} {
		of(build.Letters(kind, []int{1})).Fails(t, api.ErrArg, kind)
		of(build.Letters(kind, nil)).Fails(t, api.ErrArg, kind)
	}
	for _, kind := range kinds {
		for _, l := range [][]int{{0}, {501}, {-1}, {1, 2, 0}, {0, 1, 2}, {1, 501, 2}, {math.MinInt}, {math.MaxInt}, {1<<32 + 1}, make([]int, 100000)} {
			of(build.Letters(kind, l)).Fails(t, api.ErrArg, kind)
		}
	}
}
