package build_test

import (
	"math/rand/v2"
	"slices"
	"strconv"
	"testing"

	"abugida/api"
	"abugida/build"
	"abugida/machine"
	"abugida/samples"
	"abugida/semi"
)

// row is a machine of states in a row, with a path that spells as many symbols as
// there are arcs between them.
func row(kind, states int) api.Machine {
	return samples.Chain(kind, states, samples.Symbol(1, semi.One(kind), 0))
}

// bunch is a machine of one final state with so many arcs to itself, and of others
// that are final, too.
func bunch(kind, arcs, finals int) api.Machine {
	l := make([]api.Arc, arcs)
	for i := range l {
		l[i] = samples.Symbol(1+i%500, semi.One(kind), 0)
	}
	m := samples.Loop(kind, semi.One(kind), semi.One(kind), l...)
	for range finals - 1 {
		m.States = append(m.States, api.State{Final: semi.One(kind)})
	}
	return m
}

// spells checks that the only paths of a machine have so many symbols.
func spells(t *testing.T, m api.Machine, symbols ...int) {
	t.Helper()
	var found []int
	for _, p := range paths(m, len(m.States)+1) {
		found = append(found, len(p.x))
	}
	slices.Sort(found)
	if !slices.Equal(found, symbols) {
		t.Errorf("%d states: paths of %v symbols, not of %v", len(m.States), found, symbols)
	}
}

// P9.3: results at the limits, and beyond them.
func TestUnionLimit(t *testing.T) {
	for _, kind := range kinds {
		spells(t, of(build.Union(row(kind, 1), row(kind, 2998))).done(t), 0, 2997)
		spells(t, of(build.Union(row(kind, 1500), row(kind, 1499))).done(t), 1498, 1499)
		of(build.Union(row(kind, 1500), row(kind, 1500))).fails(t, api.ErrLong)
		of(build.Union(row(kind, 3000), row(kind, 3000))).fails(t, api.ErrLong)
		m := of(build.Union(bunch(kind, 20000, 1), bunch(kind, 9998, 1))).done(t)
		if n := arcs(m); n != 30000 {
			t.Errorf("%d arcs", n)
		}
		of(build.Union(bunch(kind, 20000, 1), bunch(kind, 9999, 1))).fails(t, api.ErrLong)
		of(build.Union(bunch(kind, 30000, 3000), bunch(kind, 30000, 3000))).fails(t, api.ErrLong)
		other := bunch(kind%3+1, 30000, 3000)
		of(build.Union(bunch(kind, 30000, 3000), other)).fails(t, api.ErrType)
	}
}

func arcs(m api.Machine) int {
	n := 0
	for _, s := range m.States {
		n += len(s.Arcs)
	}
	return n
}

// P9.4: results at the limits, and beyond them.
func TestConcatLimit(t *testing.T) {
	for _, kind := range kinds {
		spells(t, of(build.Concat(row(kind, 1), row(kind, 2999))).done(t), 2998)
		spells(t, of(build.Concat(row(kind, 2000), row(kind, 1000))).done(t), 2998)
		of(build.Concat(row(kind, 2000), row(kind, 1001))).fails(t, api.ErrLong)
		m := of(build.Concat(bunch(kind, 20000, 10), bunch(kind, 9990, 1))).done(t)
		if n := arcs(m); n != 30000 {
			t.Errorf("%d arcs", n)
		}
		// Final states of the second machine do not count.
		of(build.Concat(bunch(kind, 9990, 1), bunch(kind, 20000, 10))).done(t)
		of(build.Concat(bunch(kind, 20000, 11), bunch(kind, 9990, 1))).fails(t, api.ErrLong)
		of(build.Concat(bunch(kind, 20001, 10), bunch(kind, 9990, 1))).fails(t, api.ErrLong)
		of(build.Concat(row(kind, 3000), row(kind%3+1, 3000))).fails(t, api.ErrType)
	}
}

// P9.5: results at the limits, and beyond them.
func TestStarLimit(t *testing.T) {
	for _, kind := range kinds {
		m := of(build.Star(row(kind, 2999))).done(t)
		gone := paths(m, 5000)
		if len(gone) != 2 || len(gone[0].x) != 0 || len(gone[1].x) != 2998 {
			t.Errorf("%d: %d paths", kind, len(gone))
		}
		of(build.Star(row(kind, 3000))).fails(t, api.ErrLong)
		of(build.Star(bunch(kind, 29900, 99))).done(t)
		of(build.Star(bunch(kind, 29900, 100))).fails(t, api.ErrLong)
		of(build.Star(bunch(kind, 29901, 99))).fails(t, api.ErrLong)
	}
}

// P9.6: results at the limits, and beyond them; no factors are never too many.
func TestRepeatLimit(t *testing.T) {
	for _, kind := range kinds {
		// 31 and 30 times 98 states.
		spells(t, of(build.Repeat(row(kind, 98), 30, 30)).done(t), 30*97)
		of(build.Repeat(row(kind, 99), 30, 30)).fails(t, api.ErrLong)
		spells(t, of(build.Repeat(row(kind, 2998), 1, 1)).done(t), 2997)
		of(build.Repeat(row(kind, 2999), 1, 1)).fails(t, api.ErrLong)
		m := of(build.Repeat(bunch(kind, 997, 2), 0, 30)).done(t)
		if n := arcs(m); n != 30000 {
			t.Errorf("%d arcs", n)
		}
		of(build.Repeat(bunch(kind, 997, 3), 0, 30)).fails(t, api.ErrLong)
		of(build.Repeat(bunch(kind, 998, 2), 0, 30)).fails(t, api.ErrLong)
		spells(t, of(build.Repeat(bunch(kind, 30000, 3000), 0, 0)).done(t), 0)
		of(build.Repeat(bunch(kind, 30000, 3000), 2, 1)).fails(t, api.ErrArg)
	}
}

// P9.7: the largest machines for which the bound is not exceeded.
func TestScaleLimit(t *testing.T) {
	for _, kind := range kinds {
		m := of(build.Scale(row(kind, 2999), "2")).done(t)
		if l := paths(m, 3000); len(l) != 1 || l[0].w != "2" {
			t.Errorf("%d: %d paths", kind, len(l))
		}
		of(build.Scale(bunch(kind, 29999, 1), "2")).done(t)
	}
}

// P9.4, P9.7: products that are too long, and long ones that are not.
func TestLongNumbers(t *testing.T) {
	for _, kind := range kinds {
		for _, w := range samples.Longest(kind) {
			m := samples.Loop(kind, w, w, samples.Symbol(1, w, 0))
			word := of(build.Word(kind, []int{1}, nil, w)).done(t)
			of(build.Concat(m, word)).fails(t, api.ErrLong)
			of(build.Concat(word, m)).fails(t, api.ErrLong)
			of(build.Scale(m, w)).fails(t, api.ErrLong)
			if kind == api.Tropical {
				continue
			}
			inverse, _ := semi.Over(kind, semi.One(kind), w)
			n := of(build.Scale(word, inverse)).done(t)
			gives(t, n, []int{1}, nil, semi.One(kind))
			n = of(build.Concat(word, of(build.Word(kind, []int{2}, nil, inverse)).done(t))).done(t)
			gives(t, n, []int{1, 2}, nil, semi.One(kind))
		}
	}
}

// P9.3, P9.5, P9.6: nothing is computed with weights, however long they are.
func TestLongWeights(t *testing.T) {
	for _, kind := range kinds {
		for _, w := range samples.Longest(kind) {
			m := samples.Loop(kind, w, w, samples.Symbol(1, w, 0))
			of(build.Union(m, m)).done(t)
			of(build.Star(m)).done(t)
			of(build.Repeat(m, 2, 30)).done(t)
		}
	}
}

// R9: no number is too long for little arguments.
func TestLittle(t *testing.T) {
	r := rand.New(rand.NewPCG(9, 9))
	for i := range 500 {
		kind := kinds[i%3]
		weight := func() string {
			for {
				w := strconv.Itoa(1+r.IntN(9999)) + "/" + strconv.Itoa(2+r.IntN(9998))
				if semi.Weight(kind, w) {
					return w
				}
			}
		}
		a, b := samples.Random(r.IntN, kind, 2, 5, true), samples.Random(r.IntN, kind, 3, 5, true)
		for _, m := range []*api.Machine{&a, &b} {
			m.Lead = weight()
			for j, s := range m.States {
				m.States[j].Final = weight()
				for k := range s.Arcs {
					s.Arcs[k].W = weight()
				}
			}
		}
		of(build.Union(a, b)).done(t)
		of(build.Concat(a, b)).done(t)
		of(build.Star(a)).done(t)
		of(build.Repeat(b, 0, 30)).done(t)
		of(build.Scale(a, weight())).done(t)
	}
}

// results are the machines that the functions make of two.
func results(t *testing.T, a, b api.Machine, w string) []api.Machine {
	return []api.Machine{
		of(build.Union(a, b)).done(t),
		of(build.Concat(a, b)).done(t),
		of(build.Star(a)).done(t),
		of(build.Repeat(a, 0, 3)).done(t),
		of(build.Repeat(a, 2, 2)).done(t),
		of(build.Scale(a, w)).done(t),
	}
}

// R4: the arguments stay as they are, with their spare capacity, also when all of
// a result is overwritten; no two slices of a result share memory.
func TestMemory(t *testing.T) {
	for _, kind := range kinds {
		eachPair(kind, 100, func(a, b api.Machine) {
			a, b = samples.Twin(a), samples.Twin(b)
			p, q := samples.Whole(samples.Twin(a)), samples.Whole(samples.Twin(b))
			again := results(t, a, b, "1")
			for i, m := range results(t, a, b, "1") {
				if !machine.Same(m, again[i]) {
					t.Fatalf("%v, and then %v", m, again[i])
				}
				overwrite(t, m)
			}
			if !machine.Same(samples.Whole(a), p) || !machine.Same(samples.Whole(b), q) {
				t.Fatalf("%v, %v have been changed", a, b)
			}
		})
	}
	x, y := append(make([]int, 0, 5), 1, 2), append(make([]int, 0, 5), 2)
	build.Word(api.Tropical, x, y, "1")
	build.Letters(api.Tropical, x)
	if !slices.Equal(x[:5], []int{1, 2, 0, 0, 0}) || !slices.Equal(y[:5], []int{2, 0, 0, 0, 0}) {
		t.Fatalf("%v, %v have been changed", x, y)
	}
}

// overwrite changes all of a machine, first what is behind its slices.
func overwrite(t *testing.T, m api.Machine) {
	t.Helper()
	before := machine.Clone(m)
	for _, s := range m.States {
		for i := range s.Arcs[len(s.Arcs):cap(s.Arcs)] {
			s.Arcs[:cap(s.Arcs)][len(s.Arcs)+i] = api.Arc{W: "behind"}
		}
	}
	if !machine.Same(m, before) {
		t.Fatalf("slices of %v share memory", m)
	}
	l := m.States[:cap(m.States)]
	for i := range l {
		for j := range l[i].Arcs {
			l[i].Arcs[j] = api.Arc{W: "changed"}
		}
		l[i].Final = "changed"
	}
}
