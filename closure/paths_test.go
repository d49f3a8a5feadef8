package closure_test

import (
	"math/rand/v2"
	"reflect"
	"slices"
	"strconv"
	"testing"

	"abugida/api"
	"abugida/closure"
	"abugida/samples"
)

// results are what the three functions return for a machine.
type results struct {
	to, from []string
	total    string
}

func resultsOf(t *testing.T, m api.Machine) (r results) {
	t.Helper()
	var e, f, g api.Errno
	r.to, e = closure.To(m)
	r.from, f = closure.From(m)
	r.total, g = closure.Total(m)
	if e != api.OK || f != api.OK || g != api.OK {
		t.Fatalf("%.300v: %v, %v, %v", m, e, f, g)
	}
	return r
}

// allFail checks that the three functions return an error for a machine.
func allFail(t *testing.T, m api.Machine, want api.Errno) {
	t.Helper()
	to, e := closure.To(m)
	from, f := closure.From(m)
	total, g := closure.Total(m)
	if to != nil || from != nil || total != "" || e != want || f != want || g != want {
		t.Errorf("%.200v: %.100q, %v; %.100q, %v; %.100q, %v", m, to, e, from, f, total, g)
	}
}

// matrixOf returns the sums of the arcs' weights, and the final weights.
func matrixOf(m api.Machine) (a [][]string, finals []string) {
	a = filled(len(m.States), zero(m.Kind))
	for i, s := range m.States {
		finals = append(finals, zero(m.Kind))
		if s.Final != "" {
			finals[i] = s.Final
		}
		for _, arc := range s.Arcs {
			a[i][arc.To] = plus(m.Kind, of(a[i][arc.To]), of(arc.W)).text()
		}
	}
	return a, finals
}

// expected computes the results from the sums of all walks.
func expected(m api.Machine) results {
	a, finals := matrixOf(m)
	b := read(star(m.Kind, a))
	var r results
	total := of(zero(m.Kind))
	for i := range b {
		to := of(zero(m.Kind))
		for j := range b {
			to = plus(m.Kind, to, times(m.Kind, b[i][j], of(finals[j])))
		}
		from := times(m.Kind, of(m.Lead), b[m.Start][i])
		r.to, r.from = append(r.to, to.text()), append(r.from, from.text())
		total = plus(m.Kind, total, times(m.Kind, from, of(finals[i])))
	}
	r.total = total.text()
	return r
}

// walked computes the results of a machine without cycles path by path.
func walked(m api.Machine) results {
	none := slices.Repeat([]string{zero(m.Kind)}, len(m.States))
	r := results{to: slices.Clone(none), from: slices.Clone(none), total: zero(m.Kind)}
	add := func(at *string, w value) {
		*at = plus(m.Kind, of(*at), w).text()
	}
	var walk func(begin, state int, weight value)
	walk = func(begin, state int, weight value) {
		lead := times(m.Kind, of(m.Lead), weight)
		if begin == m.Start {
			add(&r.from[state], lead)
		}
		if final := m.States[state].Final; final != "" {
			add(&r.to[begin], times(m.Kind, weight, of(final)))
			if begin == m.Start {
				add(&r.total, times(m.Kind, lead, of(final)))
			}
		}
		for _, a := range m.States[state].Arcs {
			walk(begin, a.To, times(m.Kind, weight, of(a.W)))
		}
	}
	for i := range m.States {
		walk(i, i, of(one(m.Kind)))
	}
	return r
}

// P7.2: the examples, and machines in which some states are on no path.
func TestPathsExamples(t *testing.T) {
	loop := func(kind int, lead, w, final string) api.Machine {
		return api.Machine{Kind: kind, Lead: lead, States: []api.State{{Final: final, Arcs: []api.Arc{{In: 1, Out: 2, W: w}}}}}
	}
	two := api.Machine{Kind: api.Tropical, Lead: "1", States: []api.State{
		{Arcs: []api.Arc{{W: "2", To: 1}}},
		{Final: "4", Arcs: []api.Arc{{W: "3", To: 1}}},
	}}
	last := two
	last.Start = 1
	none := two
	none.States = []api.State{two.States[0], {Arcs: two.States[1].Arcs}}
	// The states 1 and 3 are on no path: the one ends nowhere, the other is not reached.
	stray := api.Machine{Kind: api.Probability, Lead: "3", States: []api.State{
		{Arcs: []api.Arc{{In: 1, Out: 1, W: "1/2", To: 2}, {In: 1, Out: 1, W: "1/4", To: 2}, {W: "1/5", To: 1}}},
		{Arcs: []api.Arc{{W: "2", To: 1}}},
		{Final: "1/3"},
		{Final: "5", Arcs: []api.Arc{{W: "1", To: 3}}},
	}}
	for _, x := range []struct {
		m api.Machine
		r results
	}{
		{two, results{[]string{"6", "4"}, []string{"1", "3"}, "7"}},
		{last, results{[]string{"6", "4"}, []string{"inf", "1"}, "5"}},
		{none, results{[]string{"inf", "inf"}, []string{"1", "3"}, "inf"}},
		{loop(api.Probability, "1", "1/2", "1/2"), results{[]string{"1"}, []string{"2"}, "1"}},
		{loop(api.Probability, "1/3", "1/2", ""), results{[]string{"0"}, []string{"2/3"}, "0"}},
		{loop(api.Probability, "1", "1", "1/2"), results{[]string{"inf"}, []string{"inf"}, "inf"}},
		{loop(api.Probability, "1", "1", ""), results{[]string{"0"}, []string{"inf"}, "0"}},
		{loop(api.Tropical, "5", "-1", "2"), results{[]string{"-inf"}, []string{"-inf"}, "-inf"}},
		{loop(api.Tropical, "5", "-1", ""), results{[]string{"inf"}, []string{"-inf"}, "inf"}},
		{loop(api.Tropical, "5", "0", "2"), results{[]string{"2"}, []string{"5"}, "7"}},
		{loop(api.Viterbi, "5", "1", "2"), results{[]string{"2"}, []string{"5"}, "10"}},
		{loop(api.Viterbi, "5", "3/2", "2"), results{[]string{"inf"}, []string{"inf"}, "inf"}},
		{stray, results{[]string{"1/4", "0", "1/3", "inf"}, []string{"3", "inf", "9/4", "0"}, "3/4"}},
	} {
		if r := resultsOf(t, x.m); !reflect.DeepEqual(r, x.r) {
			t.Errorf("%v: %v, not %v", x.m, r, x.r)
		}
	}
}

// P7.2: machines without cycles path by path, and all of them by their walks.
func TestPaths(t *testing.T) {
	for _, kind := range kinds {
		eachMachine(kind, func(m api.Machine, cycles bool) {
			r := resultsOf(t, m)
			if want := expected(m); !reflect.DeepEqual(r, want) {
				t.Fatalf("%v: %v, not %v", m, r, want)
			}
			if cycles {
				return
			}
			if want := walked(m); !reflect.DeepEqual(r, want) {
				t.Fatalf("%v: %v, not %v", m, r, want)
			}
		})
	}
}

// P7.7: Total, from the start and from the ends.
func TestTotals(t *testing.T) {
	for _, kind := range kinds {
		eachMachine(kind, func(m api.Machine, cycles bool) {
			r := resultsOf(t, m)
			if w := times(kind, of(m.Lead), of(r.to[m.Start])).text(); w != r.total {
				t.Fatalf("%v: Total is %s, but Lead times To is %s", m, r.total, w)
			}
			total := of(zero(kind))
			for i, s := range m.States {
				if s.Final != "" {
					total = plus(kind, total, times(kind, of(r.from[i]), of(s.Final)))
				}
			}
			if total.text() != r.total {
				t.Fatalf("%v: Total is %s, but the sum of From is %s", m, r.total, total.text())
			}
		})
	}
}

// P7.2: the symbols of the arcs and the order of the arcs do not matter.
func TestSymbols(t *testing.T) {
	r := rand.New(rand.NewPCG(7, 2))
	for _, kind := range kinds {
		eachMachine(kind, func(m api.Machine, cycles bool) {
			n := samples.Twin(m)
			for _, s := range n.States {
				r.Shuffle(len(s.Arcs), func(i, j int) { s.Arcs[i], s.Arcs[j] = s.Arcs[j], s.Arcs[i] })
				for i := range s.Arcs {
					s.Arcs[i].In, s.Arcs[i].Out = r.IntN(501), r.IntN(501)
				}
			}
			if x, y := resultsOf(t, m), resultsOf(t, n); !reflect.DeepEqual(x, y) {
				t.Fatalf("%v: %v, but with other symbols %v", m, x, y)
			}
		})
	}
}

// P7.2: machines that are not valid, with few states and with many.
func TestPathsWrong(t *testing.T) {
	for _, states := range []int{1, 60, 61, 3000} {
		for _, change := range []func(m *api.Machine){
			func(m *api.Machine) { m.Kind = 0 },
			func(m *api.Machine) { m.Kind = 4 },
			func(m *api.Machine) { m.Start = -1 },
			func(m *api.Machine) { m.Start = states },
			func(m *api.Machine) { m.Lead = "" },
			func(m *api.Machine) { m.Lead = "0" },
			func(m *api.Machine) { m.Lead = "inf" },
			func(m *api.Machine) { m.States = nil },
			func(m *api.Machine) { m.States[states-1].Final = "0" },
			func(m *api.Machine) { m.States[states-1].Final = "2/4" },
			func(m *api.Machine) { m.States[0].Arcs[0].W = "" },
			func(m *api.Machine) { m.States[0].Arcs[0].W = "0" },
			func(m *api.Machine) { m.States[0].Arcs[0].To = states },
			func(m *api.Machine) { m.States[0].Arcs[0].In = 501 },
			func(m *api.Machine) { m.States[0].Arcs[0].Out = -1 },
			func(m *api.Machine) { m.States[0].Arcs = slices.Repeat(m.States[0].Arcs, 30001) },
		} {
			m := chain(api.Viterbi, states, "1")
			m.States[0].Arcs = append(m.States[0].Arcs, api.Arc{W: "1"})
			change(&m)
			allFail(t, m, api.ErrArg)
		}
	}
	allFail(t, api.Machine{}, api.ErrArg)
	allFail(t, chain(api.Tropical, 3001, "1"), api.ErrArg)
}

// chain is a machine of states in a row, with an arc from each to the next one.
func chain(kind, states int, w string) api.Machine {
	m := api.Machine{Kind: kind, Lead: one(kind), States: make([]api.State, states)}
	for i := range states - 1 {
		m.States[i].Arcs = []api.Arc{{In: 1, Out: 1, W: w, To: i + 1}}
	}
	m.States[states-1].Final = one(kind)
	return m
}

// P7.2: the limit of 60 states, of which useless ones count.
func TestPathsStates(t *testing.T) {
	for _, kind := range kinds {
		for _, states := range []int{61, 62, 3000} {
			allFail(t, chain(kind, states, "1"), api.ErrLong)
			allFail(t, api.Machine{Kind: kind, Lead: "1", States: make([]api.State, states)}, api.ErrLong)
		}
	}
	r := resultsOf(t, chain(api.Tropical, 60, "2"))
	for i := range 60 {
		if r.to[i] != strconv.Itoa(2*(59-i)) || r.from[i] != strconv.Itoa(2*i) {
			t.Fatalf("state %d: %s, %s", i, r.to[i], r.from[i])
		}
	}
	if r.total != "118" {
		t.Errorf("60 states: %s", r.total)
	}
}

// P7.2: a machine of 60 states and 30000 arcs, almost all of them loops, whose
// probabilities have the sum 1/2 at each state.
func TestPathsArcs(t *testing.T) {
	for kind, loops := range map[int]string{api.Tropical: "0", api.Probability: "2", api.Viterbi: "1"} {
		m := chain(kind, 60, "1/2")
		for i := range m.States {
			s := &m.States[i]
			for j := range 499 {
				s.Arcs = append(s.Arcs, api.Arc{In: j, Out: 498 - j, W: "1/998", To: i})
			}
		}
		last := m.States[59].Arcs
		last[0].W = "1/1996"
		m.States[59].Arcs = append(last, last[0])
		r := resultsOf(t, m)
		to, from := of(one(kind)), of(m.Lead)
		for i := range m.States {
			to, from = times(kind, to, of(loops)), times(kind, from, of(loops))
			if r.to[59-i] != to.text() || r.from[i] != from.text() {
				t.Fatalf("%d: %s, %s, not %s, %s", kind, r.to[59-i], r.from[i], to.text(), from.text())
			}
			to, from = times(kind, to, of("1/2")), times(kind, from, of("1/2"))
		}
		if r.total != r.to[0] {
			t.Errorf("%d: %s", kind, r.total)
		}
	}
}

// P7.2: numbers that are too long, and those that are not.
func TestPathsLong(t *testing.T) {
	most, least := samples.Nines(400), "1/"+samples.Nines(400)
	for _, x := range []struct {
		kind int
		w    string
	}{{api.Tropical, most}, {api.Tropical, "-" + most}, {api.Probability, most}, {api.Probability, least}, {api.Viterbi, most}, {api.Viterbi, least}} {
		allFail(t, chain(x.kind, 3, x.w), api.ErrLong)
		m := chain(x.kind, 2, x.w)
		if r := resultsOf(t, m); r.to[0] != x.w || r.from[1] != x.w || r.total != x.w {
			t.Errorf("%d, %.50s: %.300v", x.kind, x.w, r)
		}
		// A Lead that is long does not matter to To, a Final to From.
		m.Lead = x.w
		if to, e := closure.To(m); e != api.OK || to[0] != x.w {
			t.Errorf("To: %.100q, %v", to, e)
		}
		if from, e := closure.From(m); from != nil || e != api.ErrLong {
			t.Errorf("From: %.100q, %v", from, e)
		}
		if total, e := closure.Total(m); total != "" || e != api.ErrLong {
			t.Errorf("Total: %.100q, %v", total, e)
		}
	}
	// Two arcs at the same place.
	m := chain(api.Probability, 2, most)
	m.States[0].Arcs = append(m.States[0].Arcs, m.States[0].Arcs[0])
	allFail(t, m, api.ErrLong)
	m.Kind = api.Viterbi
	if r := resultsOf(t, m); r.total != most {
		t.Errorf("Viterbi: %.100s", r.total)
	}
}

// P7.2, R9: no number is too long for at most five states and ten arcs.
func TestPathsLittle(t *testing.T) {
	r := rand.New(rand.NewPCG(7, 9))
	for i := range 600 {
		kind := kinds[i%3]
		m := samples.Random(r.IntN, kind, 1+r.IntN(5), 10, i%5 > 0)
		m.Lead = fraction(r, false)
		for j, s := range m.States {
			if s.Final != "" {
				m.States[j].Final = fraction(r, false)
			}
			for k := range s.Arcs {
				s.Arcs[k].W = fraction(r, i%2 == 0)
			}
		}
		if got, want := resultsOf(t, m), expected(m); !reflect.DeepEqual(got, want) {
			t.Fatalf("%v: %v, not %v", m, got, want)
		}
	}
}

// P7.2: the machine is not changed, also behind the ends of its slices.
func TestPathsMemory(t *testing.T) {
	for _, kind := range kinds {
		eachMachine(kind, func(m api.Machine, cycles bool) {
			n, before := samples.Twin(m), samples.Twin(m)
			x, y := resultsOf(t, n), resultsOf(t, m)
			if !reflect.DeepEqual(x, y) {
				t.Fatalf("%v: %v, %v", m, x, y)
			}
			for i := range n.States[:cap(n.States)] {
				s, b := n.States[:cap(n.States)][i], before.States[:cap(before.States)][i]
				if s.Final != b.Final || !slices.Equal(s.Arcs[:cap(s.Arcs)], b.Arcs[:cap(b.Arcs)]) {
					t.Fatalf("%v has been changed", m)
				}
			}
			clear(x.to)
			clear(x.from)
			if !reflect.DeepEqual(resultsOf(t, n), y) {
				t.Fatalf("%v: the result depends on what was done before", m)
			}
		})
	}
}
