package weigh_test

import (
	"fmt"
	"math/rand/v2"
	"reflect"
	"slices"
	"testing"

	"abugida/api"
	"abugida/samples"
	"abugida/semi"
	"abugida/weigh"
)

// fails checks that Words returns an error.
func fails(t *testing.T, m api.Machine, most int, want api.Errno) {
	t.Helper()
	if l, e := weigh.Words(m, most); l != nil || e != want {
		t.Errorf("%.300s: %.300s, %v, not %v", fmt.Sprint(m, most), fmt.Sprint(l), e, want)
	}
}

// P8.4: the chapter's example, and the ends of the range of lengths.
func TestWordsExamples(t *testing.T) {
	check := func(m api.Machine, most int, want []api.Answer) {
		t.Helper()
		l, e := weigh.Words(m, most)
		if e != api.OK || !slices.EqualFunc(l, want, func(a, b api.Answer) bool { return a.W == b.W && slices.Equal(a.Word, b.Word) }) {
			t.Errorf("%v, %d: %v, %v", m, most, l, e)
		}
	}
	m := samples.Loop(api.Tropical, "0", "1", samples.Symbol(1, "2", 0))
	all := []api.Answer{{W: "1"}, {Word: []int{1}, W: "3"}, {Word: []int{1, 1}, W: "5"}}
	for most := range 3 {
		check(m, most, all[:most+1])
	}
	for _, most := range []int{-1, 21, 22, -1 << 63, 1<<63 - 1} {
		fails(t, m, most, api.ErrArg)
	}
	if l, e := weigh.Words(m, 20); len(l) != 21 || e != api.OK || len(l[20].Word) != 20 || l[20].W != "41" {
		t.Errorf("%v, %v", l, e)
	}
	m.States[0].Final = ""
	check(m, 20, nil)
	check(samples.Chain(api.Viterbi, 3, samples.Symbol(9, "1/2", 0)), 1, nil)
	check(samples.Chain(api.Viterbi, 3, samples.Symbol(9, "1/2", 0)), 20, []api.Answer{{Word: []int{9, 9}, W: "1/4"}})
	// The order of words is not the order of the paths, of the arcs or of the values.
	some := api.Machine{Kind: api.Probability, Lead: "1", States: []api.State{
		{Arcs: []api.Arc{samples.Symbol(500, "1/4", 1), samples.Symbol(2, "1/2", 1), samples.Symbol(10, "1/3", 1), {W: "1/2", To: 1}, samples.Symbol(2, "1/4", 2)}},
		{Final: "1", Arcs: []api.Arc{samples.Symbol(1, "1/5", 2)}},
		{Final: "2"},
	}}
	check(some, 20, []api.Answer{
		{W: "1/2"}, {Word: []int{1}, W: "1/5"}, {Word: []int{2}, W: "1"}, {Word: []int{10}, W: "1/3"}, {Word: []int{500}, W: "1/4"},
		{Word: []int{2, 1}, W: "1/5"}, {Word: []int{10, 1}, W: "2/15"}, {Word: []int{500, 1}, W: "1/10"},
	})
}

// P8.4: all words with a path, in their order, and their values.
func TestWords(t *testing.T) {
	for _, kind := range kinds {
		eachMachine(kind, 400, func(m api.Machine) {
			m = samples.Acceptor(m)
			l, e := weigh.Words(m, 3)
			if e != api.OK {
				t.Fatalf("%v: %v", m, e)
			}
			for _, x := range samples.Words(3) {
				if !hasPath(m, x, x) {
					continue
				}
				if len(l) == 0 || !slices.Equal(l[0].Word, x) || l[0].W != weight(t, m, x, x) {
					t.Fatalf("%v: %v instead of %v", m, l, x)
				}
				l = l[1:]
			}
			if len(l) > 0 {
				t.Fatalf("%v: %v have no paths", m, l)
			}
		})
	}
}

// P8.4: arguments that are not valid, and the order of the errors.
func TestWordsWrong(t *testing.T) {
	large := samples.Chain(api.Viterbi, 61, api.Arc{W: "1"})
	for _, m := range slices.Concat(samples.Broken(two()), samples.Broken(samples.Chain(api.Tropical, 2, samples.Symbol(1, "1", 0))), samples.Broken(large)) {
		fails(t, m, 3, api.ErrArg)
		fails(t, m, 21, api.ErrArg)
	}
	fails(t, large, 0, api.ErrLong)
	fails(t, large, 21, api.ErrArg)
	fails(t, two(), 20, api.ErrType)
	fails(t, two(), 21, api.ErrArg)
	large.States[0].Arcs = append(large.States[0].Arcs, api.Arc{In: 1, W: "1"})
	fails(t, large, 1, api.ErrType)
	fails(t, large, -1, api.ErrArg)
	if l, e := weigh.Words(samples.Chain(api.Viterbi, 60, api.Arc{W: "1"}), 20); len(l) != 1 || e != api.OK || l[0].W != "1" {
		t.Errorf("%v, %v", l, e)
	}
	if l, e := weigh.Words(samples.Chain(api.Viterbi, 3000, samples.Symbol(1, "1", 0)), 20); len(l) != 0 || e != api.OK {
		t.Errorf("%v, %v", l, e)
	}
}

// P8.4: the limit of 500 words; longer ones do not count.
func TestWordsLimit(t *testing.T) {
	fan := func(symbols int, final string) api.Machine {
		m := samples.Loop(api.Tropical, "0", final)
		for a := symbols; a > 0; a-- {
			m.States[0].Arcs = append(m.States[0].Arcs, samples.Symbol(a, "1", 1))
		}
		m.States = append(m.States, api.State{Final: "0", Arcs: []api.Arc{samples.Symbol(1, "0", 1)}})
		return m
	}
	for most, x := range []struct {
		symbols int
		final   string
	}{1: {500, ""}, 2: {250, ""}, 4: {125, ""}, 5: {100, ""}, 20: {25, ""}} {
		if x.symbols == 0 {
			continue
		}
		l, e := weigh.Words(fan(x.symbols, ""), most)
		if len(l) != 500 || e != api.OK || l[499].Word[0] != x.symbols || len(l[499].Word) != most {
			t.Errorf("%d: %d words, %v", x.symbols, len(l), e)
		}
		fails(t, fan(x.symbols, "0"), most, api.ErrLong)
	}
	if l, e := weigh.Words(fan(499, "0"), 1); len(l) != 500 || e != api.OK {
		t.Errorf("%d words, %v", len(l), e)
	}
	fails(t, fan(500, "0"), 1, api.ErrLong)
	// Several paths of a word are one word.
	m := fan(250, "")
	m.States[0].Arcs = append(m.States[0].Arcs, m.States[0].Arcs...)
	if l, e := weigh.Words(m, 2); len(l) != 500 || e != api.OK {
		t.Errorf("%d words, %v", len(l), e)
	}
}

// P8.4, R1: beginnings of words that lead nowhere are far too many to try, and so
// are the words of 20 symbols.
func TestWordsDeadEnds(t *testing.T) {
	levels := api.Machine{Kind: api.Tropical, Lead: "0", States: make([]api.State, 42)}
	for i := range 20 {
		for a := 1; a <= 500; a++ {
			levels.States[i].Arcs = append(levels.States[i].Arcs, samples.Symbol(a, "0", i+1))
		}
		levels.States[21+i].Arcs = []api.Arc{samples.Symbol(1+i, "1", 22+i)}
	}
	levels.States[0].Arcs = append(levels.States[0].Arcs, api.Arc{W: "0", To: 21})
	levels.States[41].Final = "0"
	if l, e := weigh.Words(levels, 20); len(l) != 1 || e != api.OK || l[0].W != "20" || len(l[0].Word) != 20 || l[0].Word[19] != 20 {
		t.Errorf("%v, %v", l, e)
	}
	levels.States[20].Final = "0"
	if l, e := weigh.Words(levels, 19); len(l) != 0 || e != api.OK {
		t.Errorf("%v, %v", l, e)
	}
	fails(t, levels, 20, api.ErrLong)
}

// P8.4, R9: a value that is too long, and one that belongs to a longer word.
func TestWordsLong(t *testing.T) {
	for _, kind := range kinds {
		for _, w := range samples.Longest(kind) {
			m := samples.Loop(kind, semi.One(kind), semi.One(kind), samples.Symbol(1, w, 0))
			if l, e := weigh.Words(m, 1); len(l) != 2 || e != api.OK || l[1].W != w {
				t.Errorf("%.300s, %v", fmt.Sprint(l), e)
			}
			fails(t, m, 2, api.ErrLong)
		}
	}
}

// R4: words share no memory, and the next call returns the same ones.
func TestWordsMemory(t *testing.T) {
	r := rand.New(rand.NewPCG(8, 4))
	for range 100 {
		m := samples.Acceptor(samples.Random(r.IntN, api.Viterbi, 3, 8, true))
		l, _ := weigh.Words(m, 5)
		k, _ := weigh.Words(m, 5)
		for i, a := range l {
			if !reflect.DeepEqual(append([]int{}, a.Word...), append([]int{}, k[i].Word...)) || a.W != k[i].W {
				t.Fatalf("%v, and then %v", k[i], a)
			}
			clear(a.Word[:cap(a.Word)])
		}
	}
}
