package compose_test

import (
	"math/rand/v2"
	"slices"
	"testing"

	"abugida/api"
	"abugida/build"
	"abugida/compose"
	"abugida/machine"
	"abugida/samples"
	"abugida/semi"
)

// P11.2: the products of the values of each word, the infinite ones among them.
func TestIntersect(t *testing.T) {
	for _, kind := range kinds {
		infinite := 0
		eachTwo(kind, 600, 4, func(a, b api.Machine) {
			p, q := relation(t, a), relation(t, b)
			want := samples.Zeros(kind)
			for words := range p {
				if words[0] == words[1] {
					want[words] = times(kind, p[words], q[words])
					if isInfinite(kind, want[words]) {
						infinite++
					}
				}
			}
			m := of(compose.Intersect(a, b)).Done(t, a, b)
			samples.Agree(t, relation(t, m), want, a, b)
			if m.Kind != kind || !machine.Acceptor(m) {
				t.Fatalf("%v, %v: %v", a, b, m)
			}
		})
		if infinite < 10 {
			t.Errorf("%d: only %d infinite values", kind, infinite)
		}
	}
}

// P11.2: longer words that both acceptors have.
func TestIntersectLong(t *testing.T) {
	for _, kind := range kinds {
		one := semi.One(kind)
		a := cycle(kind, 6)
		b := cycle(kind, 10)
		m := of(compose.Intersect(a, b)).Done(t)
		for n := range 91 {
			x := slices.Repeat([]int{1}, n)
			want := semi.Zero(kind)
			if n%30 == 0 {
				want = one
			}
			gives(t, m, x, x, want)
		}
	}
}

// cycle is the acceptor of the words of symbols 1 whose length is a multiple of
// states.
func cycle(kind, states int) api.Machine {
	m := row(kind, states)
	m.States[states-1] = api.State{Arcs: []api.Arc{samples.Symbol(1, semi.One(kind), 0)}}
	m.States[0].Final = semi.One(kind)
	return m
}

// P11.2: what is no acceptor.
func TestIntersectTypes(t *testing.T) {
	for _, kind := range kinds {
		a := of(build.Word(kind, []int{1}, []int{1}, "1")).Done(t)
		for _, x := range [][2][]int{{{1}, {2}}, {{1}, nil}, {nil, {1}}, {{1, 2}, {1}}} {
			b := of(build.Word(kind, x[0], x[1], "1")).Done(t)
			of(compose.Intersect(a, b)).Fails(t, api.ErrType, x)
			of(compose.Intersect(b, a)).Fails(t, api.ErrType, x)
			of(compose.Intersect(b, b)).Fails(t, api.ErrType, x)
		}
		// An arc that is on no path counts.
		b := machine.Clone(a)
		b.States = append(b.States, api.State{Arcs: []api.Arc{{In: 1, W: "1"}}})
		of(compose.Intersect(a, b)).Fails(t, api.ErrType, kind)
		of(compose.Intersect(b, a)).Fails(t, api.ErrType, kind)
	}
}

// P11.3: the values of one input, and no others.
func TestAfter(t *testing.T) {
	for _, kind := range kinds {
		infinite := 0
		eachCyclic(kind, 60, 3, func(a, _ api.Machine) {
			before := relation(t, a)
			for _, x := range samples.Words(2) {
				want := samples.Zeros(kind)
				for _, y := range samples.Words(2) {
					words := [2]string{samples.Text(x), samples.Text(y)}
					want[words] = before[words]
					if isInfinite(kind, want[words]) {
						infinite++
					}
				}
				m := of(compose.After(x, a)).Done(t, x, a)
				samples.Agree(t, relation(t, m), want, x, a)
				if m.Kind != kind {
					t.Fatalf("kind %d, not %d", m.Kind, kind)
				}
			}
		})
		if infinite < 10 {
			t.Errorf("%d: only %d infinite values", kind, infinite)
		}
	}
}

// P11.3: words of up to 200 symbols from 1 to 500.
func TestAfterLong(t *testing.T) {
	r := rand.New(rand.NewPCG(11, 3))
	for _, kind := range kinds {
		for _, n := range []int{0, 1, 7, 100, 199, 200} {
			x, y := make([]int, n), make([]int, n)
			for i := range x {
				x[i], y[i] = 1+r.IntN(api.MaxSymbols), 1+r.IntN(api.MaxSymbols)
			}
			m := of(build.Word(kind, x, y, "1/7")).Done(t)
			after := of(compose.After(x, m)).Done(t)
			gives(t, after, x, y, "1/7")
			if n == 0 {
				continue
			}
			gives(t, after, x[1:], y[1:], semi.Zero(kind))
			other := slices.Clone(x)
			other[n-1] = x[n-1]%api.MaxSymbols + 1
			if m := of(compose.After(other, m)).Done(t); !machine.Empty(m) {
				t.Errorf("%v: there is a path", other)
			}
			if m := of(compose.After(x[1:], m)).Done(t); !machine.Empty(m) {
				t.Errorf("%v: there is a path", x[1:])
			}
		}
	}
}

// P11.3: outputs that are longer than a word, before, in and behind the input.
func TestAfterAlone(t *testing.T) {
	for _, kind := range kinds {
		one := semi.One(kind)
		m := samples.Loop(kind, one, one, samples.Symbol(1, one, 0), api.Arc{Out: 2, W: "1/2"})
		after := of(compose.After([]int{1, 1}, m)).Done(t)
		value := one
		for k := range 5 {
			twos := slices.Repeat([]int{2}, k)
			gives(t, after, []int{1, 1}, slices.Concat(twos, []int{1}, twos, []int{1}, twos), value)
			gives(t, after, []int{1}, slices.Concat(twos, []int{1}, twos), semi.Zero(kind))
			for range 3 {
				value = times(kind, value, "1/2")
			}
		}
	}
}
