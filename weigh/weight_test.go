package weigh_test

import (
	"math/rand/v2"
	"slices"
	"strconv"
	"strings"
	"testing"

	"abugida/api"
	"abugida/machine"
	"abugida/samples"
	"abugida/semi"
	"abugida/weigh"
)

// P8.1 to P8.3: the chapter's examples.
func TestExamples(t *testing.T) {
	p := two()
	for _, x := range []struct {
		x, y []int
		w    string
	}{
		{[]int{1}, []int{2}, "3/4"},
		{[]int{1}, []int{2, 2}, "3/16"},
		{[]int{1}, []int{2, 2, 2, 2}, "3/256"},
		{[]int{1}, nil, "0"},
		{[]int{2}, []int{2}, "0"},
		{nil, nil, "0"},
		{nil, []int{2}, "0"},
		{[]int{1, 1}, []int{2, 2}, "0"},
	} {
		of(weigh.Weight(p, x.x, x.y)).is(t, x.w, api.OK, x)
	}
	of(weigh.Domain(p, []int{1})).is(t, "1", api.OK)
	of(weigh.Domain(p, nil)).is(t, "0", api.OK)
	of(weigh.Domain(p, []int{1, 1})).is(t, "0", api.OK)
	of(weigh.Accepts(p, []int{1})).is(t, "", api.ErrType)
	half := samples.Loop(api.Probability, "1", "1/2", api.Arc{In: 1, W: "1/2"})
	of(weigh.Weight(half, []int{1, 1}, nil)).is(t, "1/8", api.OK)
	of(weigh.Weight(half, []int{1, 1}, []int{1})).is(t, "0", api.OK)
	less := samples.Loop(api.Tropical, "0", "0", api.Arc{W: "-1"})
	of(weigh.Weight(less, nil, nil)).is(t, "-inf", api.OK)
	of(weigh.Weight(less, []int{1}, nil)).is(t, "inf", api.OK)
	of(weigh.Weight(less, []int{0}, nil)).is(t, "", api.ErrArg)
}

// P8.1: silent cycles, with a finite sum and with an infinite one, of one state and
// of several, before and behind a symbol, and one that leads nowhere.
func TestSilentCycles(t *testing.T) {
	ring := func(kind int, w string) api.Machine {
		return api.Machine{Kind: kind, Lead: semi.One(kind), States: []api.State{
			{Arcs: []api.Arc{{W: w, To: 1}}},
			{Arcs: []api.Arc{{W: w, To: 2}, samples.Symbol(1, w, 3)}},
			{Arcs: []api.Arc{{W: w, To: 0}}},
			{Final: semi.One(kind), Arcs: []api.Arc{{W: w, To: 3}, {W: w, To: 4}}},
			{Arcs: []api.Arc{{W: w, To: 4}}},
		}}
	}
	for _, x := range []struct {
		kind int
		w    string
		sum  string
	}{
		{api.Tropical, "2", "4"},
		{api.Tropical, "0", "0"},
		{api.Tropical, "-1/3", "-inf"},
		// 1/4 times 8/7 times 2.
		{api.Probability, "1/2", "4/7"},
		{api.Probability, "1", "inf"},
		{api.Probability, "3", "inf"},
		{api.Viterbi, "1/2", "1/4"},
		{api.Viterbi, "1", "1"},
		{api.Viterbi, "3/2", "inf"},
	} {
		m := ring(x.kind, x.w)
		of(weigh.Weight(m, []int{1}, []int{1})).is(t, x.sum, api.OK, x)
		of(weigh.Accepts(m, []int{1})).is(t, x.sum, api.OK, x)
		of(weigh.Domain(m, []int{1})).is(t, x.sum, api.OK, x)
		for _, other := range [][]int{nil, {2}, {1, 1}} {
			of(weigh.Accepts(m, other)).is(t, semi.Zero(x.kind), api.OK, x)
		}
		of(weigh.Weight(m, []int{1}, nil)).is(t, semi.Zero(x.kind), api.OK, x)
	}
}

// P8.1, P8.2: the sums of all paths through the positions of two words.
func TestTotals(t *testing.T) {
	r := rand.New(rand.NewPCG(8, 100))
	for _, kind := range kinds {
		compared := 0
		check := func(m api.Machine, x, y []int, got answer) {
			w, done := total(m, x, y)
			if !done {
				return
			}
			compared++
			if got != of(w, api.OK) {
				t.Fatalf("%v of %v, %v is %v, not %s", m, x, y, got, w)
			}
		}
		short := samples.Words(3)
		eachMachine(kind, 500, func(m api.Machine) {
			a := samples.Acceptor(m)
			for range 6 {
				x, y := short[r.IntN(len(short))], short[r.IntN(len(short))]
				check(m, x, y, of(weigh.Weight(m, x, y)))
				check(a, x, x, of(weigh.Accepts(a, x)))
			}
		})
		if compared < 5900 {
			t.Errorf("%d: only %d sums were compared", kind, compared)
		}
	}
}

// P8.1 to P8.3: machines without cycles, path by path.
func TestPaths(t *testing.T) {
	short := samples.Words(3)
	for _, kind := range kinds {
		eachMachine(kind, 600, func(m api.Machine) {
			if cyclic(m) {
				return
			}
			pairs, inputs := map[[2]string]string{}, map[[2]string]string{}
			walk(m, func(p path) {
				add(kind, pairs, p.x, p.y, p.w)
				add(kind, inputs, p.x, "", p.w)
			})
			want := func(sums map[[2]string]string, x, y []int) answer {
				w, found := sums[[2]string{text(x), text(y)}]
				if !found {
					w = semi.Zero(kind)
				}
				return of(w, api.OK)
			}
			a := samples.Acceptor(m)
			for _, x := range short {
				for _, y := range short[:7] {
					if got := of(weigh.Weight(m, x, y)); got != want(pairs, x, y) {
						t.Fatalf("%v of %v, %v is %v, not %v", m, x, y, got, want(pairs, x, y))
					}
				}
				for _, got := range []answer{of(weigh.Domain(m, x)), of(weigh.Domain(a, x)), of(weigh.Accepts(a, x))} {
					if got != want(inputs, x, nil) {
						t.Fatalf("%v of %v is %v, not %v", m, x, got, want(inputs, x, nil))
					}
				}
			}
		})
	}
}

// cyclic reports whether a machine has arcs to the same or to an earlier state.
func cyclic(m api.Machine) bool {
	for i, s := range m.States {
		if slices.ContainsFunc(s.Arcs, func(a api.Arc) bool { return a.To <= i }) {
			return true
		}
	}
	return false
}

// P8.3: Domain is the value in the machine without outputs; and where the outputs
// are bounded, the sum over all of them.
func TestDomain(t *testing.T) {
	for _, kind := range kinds {
		eachMachine(kind, 300, func(m api.Machine) {
			mute, bounded := samples.Twin(m), samples.Twin(m)
			for i, s := range m.States {
				for j, a := range s.Arcs {
					mute.States[i].Arcs[j].Out = 0
					if a.In == 0 {
						bounded.States[i].Arcs[j].Out = 0
					}
				}
			}
			for _, x := range samples.Words(3) {
				of(weigh.Domain(m, x)).is(t, weight(t, mute, x, nil), api.OK, m, x)
				sum := semi.Zero(kind)
				for _, y := range samples.Words(len(x)) {
					sum, _ = semi.Plus(kind, sum, weight(t, bounded, x, y))
				}
				of(weigh.Domain(bounded, x)).is(t, sum, api.OK, bounded, x)
			}
		})
	}
}

// weight is a value that is not too long.
func weight(t *testing.T, m api.Machine, x, y []int) string {
	t.Helper()
	w, e := weigh.Weight(m, x, y)
	if e != api.OK {
		t.Fatalf("%v: %v, %v: %v", m, x, y, e)
	}
	return w
}

// P8.1 to P8.3, R2: arguments that are not valid, before all other errors.
func TestWrong(t *testing.T) {
	large := samples.Chain(api.Viterbi, 61, api.Arc{W: "1"})
	large.States[0].Arcs = append(large.States[0].Arcs, api.Arc{In: 1, W: "1"})
	for _, m := range slices.Concat(samples.Broken(two()), samples.Broken(samples.Chain(api.Tropical, 2, samples.Symbol(1, "1", 0))), samples.Broken(large)) {
		for _, x := range [][]int{nil, {1}, {0}} {
			of(weigh.Weight(m, x, []int{1})).is(t, "", api.ErrArg, m)
			of(weigh.Accepts(m, x)).is(t, "", api.ErrArg, m)
			of(weigh.Domain(m, x)).is(t, "", api.ErrArg, m)
		}
	}
	for _, m := range []api.Machine{two(), samples.Chain(api.Tropical, 2, samples.Symbol(1, "1", 0)), large} {
		for _, x := range samples.NotWords() {
			of(weigh.Weight(m, x, []int{1})).is(t, "", api.ErrArg, m)
			of(weigh.Weight(m, []int{1}, x)).is(t, "", api.ErrArg, m)
			of(weigh.Accepts(m, x)).is(t, "", api.ErrArg, m)
			of(weigh.Domain(m, x)).is(t, "", api.ErrArg, m)
		}
	}
	of(weigh.Accepts(large, nil)).is(t, "", api.ErrType)
	of(weigh.Accepts(samples.Loop(api.Tropical, "0", "0", api.Arc{In: 1, Out: 2, W: "0"}), nil)).is(t, "", api.ErrType)
	of(weigh.Accepts(samples.Loop(api.Tropical, "0", "0", api.Arc{Out: 2, W: "0"}), []int{1})).is(t, "", api.ErrType)
}

// P8.1 to P8.3: machines of more than 60 states, quiet and not.
func TestStates(t *testing.T) {
	for _, kind := range kinds {
		one, zero := semi.One(kind), semi.Zero(kind)
		for _, states := range []int{60, 61, 200, 3000} {
			long := func(w string) (string, api.Errno) {
				if states > 60 {
					return "", api.ErrLong
				}
				return w, api.OK
			}
			quiet := samples.Chain(kind, states, samples.Symbol(7, one, 0))
			sevens := slices.Repeat([]int{7}, min(states-1, 200))
			want := one
			if states > 201 {
				want = zero
			}
			of(weigh.Weight(quiet, sevens, sevens)).is(t, want, api.OK, kind, states)
			of(weigh.Accepts(quiet, sevens)).is(t, want, api.OK, kind, states)
			of(weigh.Domain(quiet, sevens)).is(t, want, api.OK, kind, states)
			// One silent arc, which need not be on a path.
			pause := samples.Twin(quiet)
			pause.States[states-1].Arcs = []api.Arc{{W: one, To: states - 1}}
			dead := samples.Twin(pause)
			dead.States[states-2].Arcs[0].To = 0
			for _, m := range []api.Machine{pause, dead} {
				w, e := long(zero)
				of(weigh.Weight(m, nil, nil)).is(t, w, e, kind, states)
				of(weigh.Accepts(m, nil)).is(t, w, e, kind, states)
				of(weigh.Domain(m, nil)).is(t, w, e, kind, states)
			}
			// For Weight, an arc without an input is not silent.
			speaks := samples.Chain(kind, states, samples.Symbol(7, one, 0))
			speaks.States[states-1].Arcs = []api.Arc{{Out: 1, W: one, To: states - 1}}
			of(weigh.Weight(speaks, nil, nil)).is(t, zero, api.OK, kind, states)
			w, e := long(zero)
			of(weigh.Domain(speaks, nil)).is(t, w, e, kind, states)
			of(weigh.Accepts(speaks, nil)).is(t, "", api.ErrType, kind, states)
			// For Domain, an arc without an output is not silent.
			speaks = samples.Chain(kind, states, api.Arc{In: 7, W: one})
			of(weigh.Domain(speaks, sevens)).is(t, want, api.OK, kind, states)
			of(weigh.Weight(speaks, sevens, nil)).is(t, want, api.OK, kind, states)
		}
	}
}

// P8.1 to P8.3: words of 200 symbols, the greatest of which is 500, in a machine
// that changes, drops and inserts symbols.
func TestLongWords(t *testing.T) {
	var arcs []api.Arc
	for _, a := range []int{1, 250, 500} {
		arcs = append(arcs, api.Arc{In: a, W: "1"}, api.Arc{Out: a, W: "1"}, samples.Symbol(a, "0", 0), api.Arc{In: a, Out: 501 - a, W: "3/2"})
	}
	m := samples.Loop(api.Tropical, "1/3", "0", arcs...)
	x, y := slices.Repeat([]int{1, 500, 250, 250}, 50), slices.Repeat([]int{500, 250, 250, 1}, 50)
	// The first symbol of x is dropped, and one is inserted at the end.
	of(weigh.Weight(m, x, y)).is(t, "7/3", api.OK)
	of(weigh.Weight(m, x, y[:197])).is(t, "10/3", api.OK)
	of(weigh.Weight(m, x, nil)).is(t, "601/3", api.OK)
	of(weigh.Weight(m, nil, y)).is(t, "601/3", api.OK)
	of(weigh.Domain(m, x)).is(t, "1/3", api.OK)
	of(weigh.Weight(m, slices.Repeat([]int{1}, 200), slices.Repeat([]int{500}, 200))).is(t, "901/3", api.OK)
	a := samples.Loop(api.Viterbi, "1", "1/2", samples.Symbol(500, "2", 0))
	of(weigh.Accepts(a, slices.Repeat([]int{500}, 200))).is(t, "803469022129495137770981046170581301261101496891396417650688", api.OK)
}

// P8.1, P8.2: the largest machines: 3000 states and 30000 arcs, and one state with
// all arcs.
func TestLargest(t *testing.T) {
	wide := api.Machine{Kind: api.Tropical, Lead: "0", States: make([]api.State, 3000)}
	for i := range wide.States {
		for a := 1; a <= 10; a++ {
			wide.States[i].Arcs = append(wide.States[i].Arcs, samples.Symbol(a, strconv.Itoa(a), (i*a+1)%3000))
		}
	}
	wide.States[0].Final = "0"
	state, sum, x := 0, 0, []int(nil)
	for i := range 200 {
		a := 1 + i*i%10
		state, sum, x = (state*a+1)%3000, sum+a, append(x, a)
	}
	wide.States[state].Final = "1/2"
	of(weigh.Accepts(wide, x)).is(t, strconv.Itoa(2*sum+1)+"/2", api.OK)
	of(weigh.Weight(wide, x, x)).is(t, strconv.Itoa(2*sum+1)+"/2", api.OK)
	of(weigh.Weight(wide, x, x[1:])).is(t, "inf", api.OK)
	// One state, with arcs from 300 inputs (among them none) to 100 outputs.
	var arcs []api.Arc
	for a := range 30000 {
		arcs = append(arcs, api.Arc{In: a / 100, Out: 1 + a%100, W: "1"})
	}
	one := samples.Loop(api.Tropical, "0", "0", arcs...)
	y := make([]int, 200)
	for i := range y {
		x[i], y[i] = 1+i*7%299, 1+i*i%100
	}
	of(weigh.Weight(one, x, y)).is(t, "200", api.OK)
	of(weigh.Weight(one, x[:100], y)).is(t, "200", api.OK)
	of(weigh.Weight(one, x, y[1:])).is(t, "inf", api.OK)
	of(weigh.Domain(one, x)).is(t, "200", api.OK)
}

// P8.1, P8.2, R9: numbers that are too long, on a path and off it.
func TestLongNumbers(t *testing.T) {
	for _, kind := range kinds {
		one, zero := semi.One(kind), semi.Zero(kind)
		for _, w := range samples.Longest(kind) {
			m := samples.Chain(kind, 3, samples.Symbol(1, w, 0))
			m.States[1].Final = one
			of(weigh.Accepts(m, []int{1})).is(t, w, api.OK, kind)
			of(weigh.Weight(m, []int{1}, []int{1})).is(t, w, api.OK, kind)
			of(weigh.Domain(m, []int{1})).is(t, w, api.OK, kind)
			of(weigh.Accepts(m, []int{1, 1})).is(t, "", api.ErrLong, kind)
			of(weigh.Weight(m, []int{1, 1}, []int{1, 1})).is(t, "", api.ErrLong, kind)
			of(weigh.Domain(m, []int{1, 1})).is(t, "", api.ErrLong, kind)
			// No path goes further, or comes from the start to the long way.
			m.States[2].Final = ""
			of(weigh.Accepts(m, []int{1, 1})).is(t, zero, api.OK, kind)
			m = samples.Chain(kind, 4, samples.Symbol(1, w, 0))
			m.States[0].Arcs = []api.Arc{samples.Symbol(1, one, 3)}
			m.States[3].Arcs = []api.Arc{samples.Symbol(1, one, 3)}
			of(weigh.Accepts(m, []int{1, 1})).is(t, one, api.OK, kind)
		}
	}
	most := samples.Loop(api.Probability, "1", "1", samples.Symbol(1, samples.Nines(400), 0), samples.Symbol(1, samples.Nines(400), 0))
	of(weigh.Accepts(most, []int{1})).is(t, "", api.ErrLong)
	most.Kind = api.Viterbi
	of(weigh.Accepts(most, []int{1})).is(t, samples.Nines(400), api.OK)
	of(weigh.Accepts(most, []int{2})).is(t, "0", api.OK)
}

// P8.1, R9: silent paths whose sums are too long, and lead nowhere.
func TestLongSilent(t *testing.T) {
	m := samples.Chain(api.Probability, 2, samples.Symbol(1, "1/2", 0))
	m.States[0].Arcs = append(m.States[0].Arcs, api.Arc{W: "1/3", To: 2})
	m.States = append(m.States, api.State{Arcs: []api.Arc{{W: "1/" + samples.Nines(400), To: 3}}}, api.State{Arcs: []api.Arc{{W: "1/" + samples.Nines(399), To: 2}}})
	of(weigh.Accepts(m, []int{1})).is(t, "1/2", api.OK)
	of(weigh.Accepts(m, nil)).is(t, "0", api.OK)
	m.States[3].Final = "1"
	of(weigh.Accepts(m, []int{1})).is(t, "1/2", api.OK)
	of(weigh.Accepts(m, nil)).is(t, "", api.ErrLong)
}

// R9: no number is too long for machines of five states and ten arcs, numbers of
// four digits, and words that have six symbols together.
func TestLittle(t *testing.T) {
	r := rand.New(rand.NewPCG(8, 9))
	for i := range 400 {
		m := samples.Random(r.IntN, api.Probability, 5, 10, true)
		m.Lead = little(r, 9000)
		for j := range m.States {
			m.States[j].Final = little(r, 9000)
			for k := range m.States[j].Arcs {
				a := &m.States[j].Arcs[k]
				// At most ten arcs of less than 1/10 have a finite sum.
				a.In, a.Out, a.W = min(a.In, 1), min(a.Out, 1), little(r, 900)
				if i%2 == 0 {
					a.Out = 0
				}
			}
		}
		split := r.IntN(7)
		if i%2 == 0 {
			split = 6
		}
		x, y := slices.Repeat([]int{1}, split), slices.Repeat([]int{1}, 6-split)
		of(weigh.Weight(m, x, y)).is(t, solved(m, x, y), api.OK, m, x, y)
		for _, s := range m.States {
			for k := range s.Arcs {
				s.Arcs[k].W = strings.ReplaceAll(s.Arcs[k].W, "/", "")[:4]
			}
		}
		if w, e := weigh.Weight(m, x, y); e != api.OK {
			t.Fatalf("%v of %v, %v: %s, %v", m, x, y, w, e)
		}
	}
}

// little returns a fraction of numbers of at most four digits, with a numerator
// of less than a limit.
func little(r *rand.Rand, limit int) string {
	for {
		w := strconv.Itoa(1+r.IntN(limit)) + "/" + strconv.Itoa(9001+r.IntN(999))
		if semi.Weight(api.Probability, w) {
			return w
		}
	}
}

// R4: the arguments stay as they are, with their spare capacity.
func TestMemory(t *testing.T) {
	for _, kind := range kinds {
		eachMachine(kind, 100, func(m api.Machine) {
			m = samples.Twin(m)
			before := samples.Whole(samples.Twin(m))
			x, y := append(make([]int, 0, 5), 1, 2), append(make([]int, 0, 5), 2)
			w := of(weigh.Weight(m, x, y))
			weigh.Domain(m, x)
			weigh.Accepts(m, x)
			weigh.Words(m, 3)
			if !machine.Same(samples.Whole(m), before) || !slices.Equal(x[:5], []int{1, 2, 0, 0, 0}) || !slices.Equal(y[:5], []int{2, 0, 0, 0, 0}) {
				t.Fatalf("%v, %v, %v have been changed", m, x, y)
			}
			if again := of(weigh.Weight(m, x, y)); again != w {
				t.Fatalf("%v, and then %v", w, again)
			}
		})
	}
}
