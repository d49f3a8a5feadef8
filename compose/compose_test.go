package compose_test

import (
	"math/rand/v2"
	"slices"
	"testing"

	"abugida/api"
	"abugida/build"
	"abugida/compose"
	"abugida/machine"
	"abugida/samples"
	"abugida/semi"
)

// P11.1 to P11.3: the chapter's examples.
func TestExamples(t *testing.T) {
	a, b, c := first(), second(), third()
	m := of(compose.Compose(a, b)).Done(t)
	gives(t, m, []int{1}, []int{3}, "3")
	gives(t, m, []int{1}, []int{4}, "1")
	gives(t, m, []int{1}, []int{2}, "inf")
	m = of(compose.Compose(c, b)).Done(t)
	gives(t, m, []int{1, 1}, []int{3}, "3")
	gives(t, m, []int{1}, []int{3}, "inf")
	stars := samples.Loop(api.Tropical, "0", "0", samples.Symbol(1, "1", 0))
	twice := of(build.Word(api.Tropical, []int{1, 1}, []int{1, 1}, "5")).Done(t)
	m = of(compose.Intersect(stars, twice)).Done(t)
	gives(t, m, []int{1, 1}, []int{1, 1}, "7")
	gives(t, m, []int{1}, []int{1}, "inf")
	gives(t, of(compose.After([]int{1}, b)).Done(t), []int{2}, []int{3}, "inf")
	gives(t, of(compose.After([]int{2}, b)).Done(t), []int{2}, []int{3}, "2")
	viterbi := samples.Loop(api.Viterbi, "1", "1")
	of(compose.Compose(a, viterbi)).Fails(t, api.ErrType)
	of(compose.Intersect(a, b)).Fails(t, api.ErrType)
}

// P11.1: all pairs of paths of machines that have finitely many.
func TestComposePaths(t *testing.T) {
	for _, kind := range kinds {
		paths := 0
		eachFinite(kind, 400, func(a, b api.Machine) {
			m := of(compose.Compose(a, b)).Done(t, a, b)
			want := byPaths(a, b)
			samples.Agree(t, relation(t, m), want, a, b)
			if m.Kind != kind {
				t.Fatalf("kind %d, not %d", m.Kind, kind)
			}
			for _, w := range want {
				if w != semi.Zero(kind) {
					paths++
				}
			}
		})
		if paths < 200 {
			t.Errorf("%d: only %d values", kind, paths)
		}
	}
}

// P11.1: machines with cycles, which have infinitely many words between them.
func TestComposeCycles(t *testing.T) {
	for _, kind := range kinds {
		infinite := 0
		eachCyclic(kind, 300, 3, func(a, b api.Machine) {
			m := of(compose.Compose(a, b)).Done(t, a, b)
			for _, x := range samples.Words(1) {
				for _, y := range samples.Words(1) {
					want := byMatrices(t, a, b, x, y)
					gives(t, m, x, y, want)
					if isInfinite(kind, want) {
						infinite++
					}
				}
			}
		})
		if infinite < 10 {
			t.Errorf("%d: only %d infinite values", kind, infinite)
		}
	}
}

// P11.1: longer words, in which both machines go on alone before, between and behind
// the symbols at which they meet.
func TestComposeWords(t *testing.T) {
	for _, kind := range kinds {
		eachCyclic(kind, 40, 2, func(a, b api.Machine) {
			m := of(compose.Compose(a, b)).Done(t, a, b)
			for _, x := range samples.Words(2) {
				for _, y := range samples.Words(2) {
					gives(t, m, x, y, byMatrices(t, a, b, x, y))
				}
			}
		})
	}
}

// P11.1: there is a single pair of paths, however often the machines go on alone; a
// pair that is counted twice would have another value as a probability.
func TestOnce(t *testing.T) {
	one, none := []int{1}, []int(nil)
	for n := range 6 {
		for k := range 6 {
			x, y := slices.Repeat(one, n), slices.Repeat([]int{2}, k)
			a := of(build.Word(api.Probability, x, none, "1/2")).Done(t)
			b := of(build.Word(api.Probability, none, y, "1/3")).Done(t)
			m := of(compose.Compose(a, b)).Done(t)
			gives(t, m, x, y, "1/6")
			samples.Spells(t, m, n)
			// Three times, with a symbol at which they meet in between.
			meet := of(build.Word(api.Probability, none, one, "1/5")).Done(t)
			met := of(build.Word(api.Probability, one, none, "1/7")).Done(t)
			m = of(compose.Compose(between(t, a, meet), between(t, b, met))).Done(t)
			gives(t, m, slices.Repeat(x, 3), slices.Repeat(y, 3), times(api.Probability, "1/216", "1/1225"))
			samples.Spells(t, m, 3*n)
		}
	}
}

// between is a machine three times, with another one in between.
func between(t *testing.T, a, with api.Machine) api.Machine {
	t.Helper()
	m := a
	for range 2 {
		m = of(build.Concat(of(build.Concat(m, with)).Done(t), a)).Done(t)
	}
	return m
}

// P11.1: silent arcs of both machines, as often as they like.
func TestSilent(t *testing.T) {
	for _, x := range []struct {
		kind             int
		v, w, total, met string
	}{
		{api.Tropical, "1", "2", "0", "0"},
		{api.Tropical, "-1", "2", "-inf", "-inf"},
		{api.Probability, "1/2", "1/3", "3", "6"},
		{api.Probability, "1/2", "1/2", "4", "inf"},
		{api.Probability, "1", "1/3", "inf", "inf"},
		{api.Viterbi, "1/2", "1/3", "1", "1"},
		{api.Viterbi, "1/2", "3/2", "inf", "inf"},
	} {
		one := semi.One(x.kind)
		a := samples.Loop(x.kind, one, one, api.Arc{W: x.v})
		b := samples.Loop(x.kind, one, one, api.Arc{W: x.w})
		gives(t, of(compose.Compose(a, b)).Done(t), nil, nil, x.total)
		gives(t, of(compose.Compose(b, a)).Done(t), nil, nil, x.total)
		gives(t, of(compose.Intersect(a, b)).Done(t), nil, nil, x.total)
		// They are written by one machine, and read by the other one.
		c := samples.Loop(x.kind, one, one, api.Arc{Out: 1, W: x.v})
		d := samples.Loop(x.kind, one, one, api.Arc{In: 1, W: one}, api.Arc{W: x.w})
		gives(t, of(compose.Compose(c, d)).Done(t), nil, nil, x.met)
	}
}

// P11.1: words between that have more symbols than a word may have.
func TestLongBetween(t *testing.T) {
	for _, kind := range kinds {
		one := semi.One(kind)
		writes := samples.Chain(kind, 1000, api.Arc{Out: 1, W: one})
		reads := samples.Chain(kind, 1000, api.Arc{In: 1, W: one})
		m := of(compose.Compose(writes, reads)).Done(t)
		samples.Spells(t, m, 0)
		m = of(compose.Compose(writes, samples.Chain(kind, 999, api.Arc{In: 1, W: one}))).Done(t)
		if !machine.Empty(m) {
			t.Errorf("%d: there is a path", kind)
		}
	}
}

// P11.1: each symbol meets itself, on whatever arc.
func TestSymbols(t *testing.T) {
	r := rand.New(rand.NewPCG(11, 500))
	for _, kind := range kinds {
		one := semi.One(kind)
		var l []api.Arc
		for s := 1; s <= api.MaxSymbols; s++ {
			l = append(l, api.Arc{In: s, Out: api.MaxSymbols + 1 - s, W: one})
		}
		r.Shuffle(len(l), func(i, j int) { l[i], l[j] = l[j], l[i] })
		mirror := samples.Loop(kind, one, one, l...)
		m := of(compose.Compose(mirror, mirror)).Done(t)
		x := []int{1, 2, 250, 251, 499, 500}
		gives(t, m, x, x, one)
		gives(t, m, []int{1}, []int{500}, semi.Zero(kind))
		n := of(compose.After(x, mirror)).Done(t)
		gives(t, n, x, []int{500, 499, 251, 250, 2, 1}, one)
		gives(t, n, x, x, semi.Zero(kind))
		if k := samples.Arcs(m); k != api.MaxSymbols {
			t.Errorf("%d: %d arcs", kind, k)
		}
	}
}

// P11.1 to P11.3: machines that are not valid, before all other errors.
func TestWrong(t *testing.T) {
	for _, kind := range kinds {
		a := of(build.Word(kind, []int{1, 2}, []int{1, 2}, "1")).Done(t)
		other := of(build.Word(kind%3+1, []int{1, 2}, []int{1}, "1")).Done(t)
		for _, m := range samples.Broken(a) {
			for _, b := range []api.Machine{a, other, m} {
				of(compose.Compose(m, b)).Fails(t, api.ErrArg, m)
				of(compose.Compose(b, m)).Fails(t, api.ErrArg, m)
				of(compose.Intersect(m, b)).Fails(t, api.ErrArg, m)
				of(compose.Intersect(b, m)).Fails(t, api.ErrArg, m)
			}
			of(compose.After([]int{1}, m)).Fails(t, api.ErrArg, m)
			of(compose.After([]int{0}, m)).Fails(t, api.ErrArg, m)
		}
		for _, x := range samples.NotWords() {
			of(compose.After(x, a)).Fails(t, api.ErrArg)
			of(compose.After(x, api.Machine{})).Fails(t, api.ErrArg)
		}
	}
}

// P11.1, P11.2: machines of different kinds.
func TestKinds(t *testing.T) {
	for _, kind := range kinds {
		for _, other := range kinds {
			a := of(build.Word(kind, []int{1}, []int{1}, "1")).Done(t)
			b := of(build.Word(other, []int{1}, []int{1}, "1")).Done(t)
			if kind == other {
				of(compose.Compose(a, b)).Done(t)
				of(compose.Intersect(a, b)).Done(t)
				continue
			}
			of(compose.Compose(a, b)).Fails(t, api.ErrType, kind, other)
			of(compose.Intersect(a, b)).Fails(t, api.ErrType, kind, other)
			// They come before what is too large.
			large := samples.Loop(kind, "1", "1", slices.Repeat([]api.Arc{samples.Symbol(1, "1", 0)}, 30000)...)
			small := machine.Clone(large)
			small.Kind = other
			of(compose.Compose(large, small)).Fails(t, api.ErrType, kind, other)
			of(compose.Intersect(large, small)).Fails(t, api.ErrType, kind, other)
		}
	}
}
