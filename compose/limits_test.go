package compose_test

import (
	"math/rand/v2"
	"slices"
	"testing"

	"abugida/api"
	"abugida/compose"
	"abugida/machine"
	"abugida/samples"
	"abugida/semi"
)

// crowd is a machine of final states with so many arcs, whose symbols are 0 and 1; its
// first arcs lead from each state to the next one, so that all states are on paths.
func crowd(r *rand.Rand, kind, states, arcs int) api.Machine {
	one := semi.One(kind)
	m := api.Machine{Kind: kind, Lead: one, States: make([]api.State, states)}
	for i := range m.States {
		m.States[i].Final = one
	}
	for i := range arcs {
		from, to := i%states, (i+1)%states
		if i >= states {
			from, to = r.IntN(states), r.IntN(states)
		}
		s := &m.States[from]
		s.Arcs = append(s.Arcs, api.Arc{In: r.IntN(2), Out: r.IntN(2), W: one, To: to})
	}
	return m
}

// P11.1, P11.2: no machine is too large within the bound, whatever steps its parts may
// make: 3 p q states, and 3 (c + p) (d + q) arcs.
func TestComposeLimit(t *testing.T) {
	r := rand.New(rand.NewPCG(11, 1))
	for i := range 300 {
		kind := kinds[i%3]
		p := 1 + r.IntN([]int{1, 5, 31, 100, 1000}[i%5])
		q := 1 + r.IntN(1000/p)
		// The product of c + p and d + q is at most 10000.
		cp := p + r.IntN(10000/q-p+1)
		dq := 10000 / cp
		a, b := crowd(r, kind, p, cp-p), crowd(r, kind, q, dq-q)
		if i%2 == 0 {
			a, b = b, a
		}
		of(compose.Compose(a, b)).Done(t, p, q, cp, dq)
		of(compose.Intersect(samples.Acceptor(a), samples.Acceptor(b))).Done(t, p, q, cp, dq)
	}
}

// P11.1, P11.2: the largest results within the bound.
func TestComposeLargest(t *testing.T) {
	for _, kind := range kinds {
		one := semi.One(kind)
		// 1000 states, with steps of each machine alone.
		m := of(compose.Compose(samples.Chain(kind, 1000, api.Arc{In: 1, W: one}), samples.Loop(kind, one, one, api.Arc{Out: 2, W: one}))).Done(t)
		gives(t, m, nil, []int{2}, semi.Zero(kind))
		samples.Spells(t, of(compose.Compose(row(kind, 1000), row(kind, 1))).Done(t))
		samples.Spells(t, of(compose.Intersect(row(kind, 1000), samples.Loop(kind, one, one, samples.Symbol(1, one, 0)))).Done(t), 999)
		// 99 arcs each, all of which meet.
		many := slices.Repeat([]api.Arc{samples.Symbol(1, "1/99", 0)}, 99)
		a := samples.Loop(kind, one, one, many...)
		want := map[int]string{api.Tropical: "2/99", api.Probability: "1", api.Viterbi: "1/9801"}[kind]
		gives(t, of(compose.Compose(a, a)).Done(t), []int{1}, []int{1}, want)
		gives(t, of(compose.Intersect(a, a)).Done(t), []int{1}, []int{1}, want)
		// 98 arcs that meet before and after the second machine has gone on alone.
		many = slices.Repeat([]api.Arc{samples.Symbol(3, "1/98", 0)}, 98)
		a = samples.Loop(kind, one, one, slices.Concat(many, []api.Arc{{In: 1, W: "1/2"}})...)
		b := samples.Loop(kind, one, one, slices.Concat(many, []api.Arc{{Out: 2, W: "1/2"}})...)
		want = map[int]string{api.Tropical: "50/49", api.Probability: "1/4", api.Viterbi: "1/38416"}[kind]
		gives(t, of(compose.Compose(a, b)).Done(t), []int{1, 3}, []int{2, 3}, want)
	}
}

// P11.3: no machine is too large within the bound: 3 (k + 1) p states, and
// 3 (2 k + 1) (c + p) arcs.
func TestAfterLimit(t *testing.T) {
	r := rand.New(rand.NewPCG(11, 33))
	for i := range 300 {
		kind := kinds[i%3]
		k := []int{0, 1, 3, 20, 200}[i%5]
		p := 1 + r.IntN(1000/(k+1))
		size := 10000 / (2*k + 1)
		m := crowd(r, kind, p, size-p)
		of(compose.After(slices.Repeat([]int{1}, k), m)).Done(t, k, p, size)
	}
}

// isRight checks a result beyond the bound: it is right, or there is none.
func isRight(t *testing.T, m api.Machine, e api.Errno, right func(m api.Machine) bool) {
	t.Helper()
	if e == api.ErrLong && machine.Same(m, api.Machine{}) {
		return
	}
	if e != api.OK || !machine.Valid(m) || !right(m) {
		t.Errorf("%d states, %v", len(m.States), e)
	}
}

// R8: the largest machines, beyond the bound, whose results would be too large, or
// whose pairs and steps are too many.
func TestBeyond(t *testing.T) {
	for _, kind := range kinds {
		one := semi.One(kind)
		// What is left of two cycles of 59 and 61 states has 3599 states.
		m, e := compose.Intersect(cycle(kind, 59), cycle(kind, 61))
		isRight(t, m, e, func(m api.Machine) bool { return false })
		// All pairs of arcs meet.
		for _, arcs := range []int{173, 174, 200, 30000} {
			a := samples.Loop(kind, one, one, slices.Repeat([]api.Arc{samples.Symbol(1, one, 0)}, arcs)...)
			m, e = compose.Compose(a, a)
			isRight(t, m, e, func(m api.Machine) bool {
				gives(t, m, []int{1}, []int{1}, power(kind, arcs, 2))
				return true
			})
		}
		// All 9 * 10^6 pairs of states are reached, and none is final.
		left, right := samples.Chain(kind, 3000, api.Arc{In: 1, W: one}), samples.Chain(kind, 3000, api.Arc{Out: 1, W: one})
		for i := range left.States {
			s := &left.States[i]
			s.Final, s.Arcs = "", append(s.Arcs, samples.Symbol(2, one, i))
		}
		m, e = compose.Compose(left, right)
		isRight(t, m, e, machine.Empty)
		// Infinitely many outputs after each symbol.
		r := rand.New(rand.NewPCG(11, uint64(kind)))
		m, e = compose.After(slices.Repeat([]int{1}, 200), crowd(r, kind, 3000, 30000))
		isRight(t, m, e, func(m api.Machine) bool { return len(m.States) > 200 })
	}
}

// R8: large machines whose result is not, which later layers need: the word of a
// lexicon, for example. Beyond the bound this is more than what is promised.
func TestLargeArguments(t *testing.T) {
	for _, kind := range kinds {
		one := semi.One(kind)
		samples.Spells(t, of(compose.Intersect(row(kind, 3000), row(kind, 3000))).Done(t), 2999)
		m := of(compose.Compose(samples.Chain(kind, 1500, api.Arc{In: 1, W: one}), samples.Chain(kind, 1500, api.Arc{Out: 1, W: one}))).Done(t)
		samples.Spells(t, m, 1499)
		tree := samples.Bunch(kind, 30000, 3000)
		x := []int{1, 2, 3, 500}
		gives(t, of(compose.After(x, tree)).Done(t), x, x, power(kind, 60, 4))
	}
}

// power is the sum of n times One, multiplied by itself.
func power(kind, n, factors int) string {
	sum, p := semi.Zero(kind), semi.One(kind)
	for range n {
		sum = plus(kind, sum, semi.One(kind))
	}
	for range factors {
		p = times(kind, p, sum)
	}
	return p
}

// R9: products that are too long, and long weights that are multiplied by One, or are
// on no path.
func TestLongNumbers(t *testing.T) {
	x := []int{1}
	for _, kind := range kinds {
		one := semi.One(kind)
		for _, w := range samples.Longest(kind) {
			lead := samples.Loop(kind, w, one, samples.Symbol(1, one, 0))
			final := samples.Loop(kind, one, w, samples.Symbol(1, one, 0))
			arc := samples.Chain(kind, 2, samples.Symbol(1, w, 0))
			for i, a := range []api.Machine{lead, final, arc} {
				of(compose.Compose(a, a)).Fails(t, api.ErrLong, i)
				of(compose.Intersect(a, a)).Fails(t, api.ErrLong, i)
				gives(t, of(compose.After(x, a)).Done(t), x, x, w)
				gives(t, of(compose.Compose(a, samples.Chain(kind, 2, samples.Symbol(1, one, 0)))).Done(t), x, x, w)
			}
			of(compose.Compose(lead, final)).Done(t)
			dead := samples.Chain(kind, 2, samples.Symbol(1, w, 0))
			dead.States[0].Final, dead.States[1].Final = one, ""
			gives(t, of(compose.Compose(dead, arc)).Done(t), x, x, semi.Zero(kind))
			gives(t, of(compose.Intersect(dead, dead)).Done(t), nil, nil, one)
		}
	}
}

// R9: long numbers of which only the product is short.
func TestShortProducts(t *testing.T) {
	x := []int{1}
	for _, kind := range kinds {
		one := semi.One(kind)
		for _, w := range samples.Longest(kind) {
			inverse, e := semi.Over(kind, one, w)
			if e != api.OK {
				t.Fatal(e)
			}
			a := samples.Loop(kind, w, w, samples.Symbol(1, w, 0))
			b := samples.Loop(kind, inverse, inverse, samples.Symbol(1, inverse, 0))
			gives(t, of(compose.Compose(a, b)).Done(t), x, x, one)
			gives(t, of(compose.Intersect(b, a)).Done(t), x, x, one)
		}
	}
}

// R9: no number is too long for little arguments.
func TestLittle(t *testing.T) {
	r := rand.New(rand.NewPCG(11, 9))
	for i := range 1000 {
		kind := kinds[i%3]
		a, b := samples.Little(r.IntN, kind, 2, 5), samples.Little(r.IntN, kind, 3, 5)
		of(compose.Compose(a, b)).Done(t, a, b)
		of(compose.Compose(b, a)).Done(t, a, b)
		of(compose.Intersect(samples.Acceptor(a), samples.Acceptor(b))).Done(t, a, b)
		of(compose.After([]int{1, 2, 2, 1, 1, 2}, samples.Little(r.IntN, kind, 5, 10))).Done(t)
	}
}

// R4: the arguments stay as they are, with their spare capacity, also when all of a
// result is overwritten; no two slices of a result share memory.
func TestMemory(t *testing.T) {
	for _, kind := range kinds {
		eachPair(kind, 100, 4, func(a, b api.Machine) {
			samples.Separate(t, a, b, func(a, b api.Machine) []api.Machine {
				return []api.Machine{of(compose.Compose(a, b)).Done(t)}
			})
		})
		eachTwo(kind, 100, 4, func(a, b api.Machine) {
			samples.Separate(t, a, b, func(a, b api.Machine) []api.Machine { return results(t, a, b) })
		})
		a := row(kind, 10)
		samples.Separate(t, a, a, func(a, _ api.Machine) []api.Machine {
			return []api.Machine{of(compose.Compose(a, a)).Done(t), of(compose.Intersect(a, a)).Done(t)}
		})
	}
	x := append(make([]int, 0, 5), 1, 2)
	compose.After(x, row(api.Tropical, 3))
	if !slices.Equal(x[:5], []int{1, 2, 0, 0, 0}) {
		t.Fatalf("%v has been changed", x)
	}
}
