package sides_test

import (
	"math"
	"math/rand/v2"
	"slices"
	"testing"

	"abugida/api"
	"abugida/build"
	"abugida/machine"
	"abugida/samples"
	"abugida/semi"
	"abugida/sides"
)

// renaming is a random list of pairs, in which there may be several for a symbol.
func renaming(r *rand.Rand, least int) []api.Pair {
	l := make([]api.Pair, r.IntN(5))
	for i := range l {
		l[i] = api.Pair{In: 1 + r.IntN(3), Out: least + r.IntN(4-least)}
	}
	return l
}

// P10.5: the sum over all words that have an image, of machines with cycles; the
// images are as long as the words.
func TestRename(t *testing.T) {
	r := rand.New(rand.NewPCG(10, 5))
	for _, kind := range kinds {
		eachMachine(kind, 250, func(a api.Machine) {
			l := renaming(r, 1)
			before, want := relation(t, a), samples.Zeros(kind)
			for _, u := range samples.Words(2) {
				for _, v := range samples.Words(2) {
					key := [2]string{samples.Text(image(l, u)), samples.Text(image(l, v))}
					if w, listed := want[key]; listed {
						want[key], _ = semi.Plus(kind, w, before[[2]string{samples.Text(u), samples.Text(v)}])
					}
				}
			}
			m := of(sides.Rename(a, l)).Done(t, a, l)
			samples.Agree(t, relation(t, m), want, l, a)
			if m.Kind != kind {
				t.Fatalf("kind %d, not %d", m.Kind, kind)
			}
		})
	}
}

// P10.5: images that are shorter than their words, in machines with finitely many
// paths.
func TestRenameAway(t *testing.T) {
	r := rand.New(rand.NewPCG(10, 55))
	for _, kind := range kinds {
		seen := 0
		eachMachine(kind, 300, func(a api.Machine) {
			if !isFinite(a) {
				return
			}
			seen++
			l := renaming(r, 0)
			want := byPaths(a, func(p samples.Path) (x, y []int) { return image(l, p.X), image(l, p.Y) })
			samples.Agree(t, relation(t, of(sides.Rename(a, l)).Done(t, a, l)), want, l, a)
		})
		if seen < 50 {
			t.Errorf("only %d machines", seen)
		}
	}
}

// P10.5: infinitely many words that have the same image.
func TestRenameLoops(t *testing.T) {
	for _, x := range []struct {
		kind          int
		w, none, twos string
	}{
		{api.Tropical, "1", "0", "4"},
		{api.Tropical, "-1", "-inf", "-inf"},
		{api.Probability, "1/3", "3/2", "27/32"},
		{api.Probability, "1", "inf", "inf"},
		{api.Viterbi, "1/2", "1", "1/4"},
		{api.Viterbi, "2", "inf", "inf"},
	} {
		two := map[int]string{api.Tropical: "2", api.Probability: "1/2", api.Viterbi: "1/2"}[x.kind]
		a := samples.Loop(x.kind, semi.One(x.kind), semi.One(x.kind), samples.Symbol(1, x.w, 0), api.Arc{In: 2, Out: 1, W: two, To: 0})
		m := of(sides.Rename(a, []api.Pair{{In: 1, Out: 0}})).Done(t)
		gives(t, m, nil, nil, x.none)
		gives(t, m, []int{2, 2}, nil, x.twos)
		gives(t, m, []int{2}, []int{1}, semi.Zero(x.kind))
	}
}

// P10.5: each symbol, the list of all symbols, and long lists, of which the first
// pair for a symbol counts.
func TestRenameSymbols(t *testing.T) {
	for s := 1; s <= api.MaxSymbols; s++ {
		image := api.MaxSymbols + 1 - s
		a := of(build.Word(api.Viterbi, []int{s}, nil, "1")).Done(t)
		m := of(sides.Rename(a, []api.Pair{{In: s, Out: image}})).Done(t)
		gives(t, m, []int{image}, nil, "1")
		m = of(sides.Rename(a, []api.Pair{{In: image, Out: s}})).Done(t)
		gives(t, m, []int{s}, nil, "1")
	}
	var l []api.Pair
	for s := 1; s <= api.MaxSymbols; s++ {
		l = append(l, api.Pair{In: s, Out: s % api.MaxSymbols})
	}
	for range 3 {
		// Later pairs do not count.
		l = append(l, slices.Repeat([]api.Pair{{In: 500, Out: 7}, {In: 3, Out: 7}, {In: 9, Out: 0}}, 1+len(l))...)
	}
	a := of(build.Word(api.Viterbi, []int{500, 3, 9}, []int{1, 500, 499}, "1")).Done(t)
	m := of(sides.Rename(a, l)).Done(t)
	gives(t, m, []int{3, 9}, []int{1, 499}, "1")
}

// P10.5: pairs with something that is no symbol, wherever they stand.
func TestRenameWrong(t *testing.T) {
	a := of(build.Word(api.Tropical, []int{1}, []int{2}, "1")).Done(t)
	for _, p := range []api.Pair{{}, {In: 0, Out: 1}, {In: -1, Out: 1}, {In: 501, Out: 1}, {In: 1, Out: 501}, {In: 1, Out: -1}, {In: math.MaxInt, Out: 1}, {In: math.MinInt, Out: 1}, {In: 1, Out: math.MaxInt}, {In: 1, Out: math.MinInt}, {In: 1<<32 + 1, Out: 1}, {In: 1, Out: 1 << 32}} {
		of(sides.Rename(a, []api.Pair{p})).Fails(t, api.ErrArg, p)
		of(sides.Rename(a, []api.Pair{{In: 1, Out: 2}, p})).Fails(t, api.ErrArg, p)
		of(sides.Rename(a, []api.Pair{p, {In: 1, Out: 2}})).Fails(t, api.ErrArg, p)
	}
	for _, p := range []api.Pair{{In: 1, Out: 0}, {In: 1, Out: 500}, {In: 500, Out: 0}, {In: 500, Out: 500}} {
		of(sides.Rename(a, []api.Pair{p})).Done(t, p)
	}
	for _, l := range [][]api.Pair{nil, {}} {
		if m := of(sides.Rename(a, l)).Done(t); !machine.Same(m, a) {
			same(t, m, a)
		}
	}
}
