package sides_test

import (
	"testing"

	"abugida/api"
	"abugida/build"
	"abugida/machine"
	"abugida/samples"
	"abugida/semi"
	"abugida/sides"
	"abugida/weigh"
)

// P10.1 to P10.5: the chapter's examples.
func TestExamples(t *testing.T) {
	m := example(api.Tropical, "1", "2", "0")
	i := of(sides.Invert(m)).Done(t)
	gives(t, i, []int{2}, []int{1}, "1")
	gives(t, i, []int{1}, []int{2}, "inf")
	gives(t, of(sides.Input(m)).Done(t), []int{1}, []int{1}, "1")
	o := of(sides.Output(m)).Done(t)
	gives(t, o, []int{3}, []int{3}, "2")
	gives(t, o, []int{1}, []int{1}, "inf")
	p := example(api.Probability, "1/2", "1/3", "1")
	gives(t, of(sides.Input(p)).Done(t), []int{1}, []int{1}, "5/6")
	w := of(build.Word(api.Tropical, []int{1, 2}, []int{3}, "3")).Done(t)
	gives(t, of(sides.Reverse(w)).Done(t), []int{2, 1}, []int{3}, "3")
	a := of(build.Word(api.Tropical, []int{1, 2}, []int{1, 2}, "1")).Done(t)
	b := of(build.Word(api.Tropical, []int{3}, []int{3}, "2")).Done(t)
	c := of(sides.Cross(a, b)).Done(t)
	gives(t, c, []int{1, 2}, []int{3}, "3")
	gives(t, c, []int{3}, []int{1, 2}, "inf")
	of(sides.Cross(m, m)).Fails(t, api.ErrType)
	gives(t, of(sides.Rename(m, []api.Pair{{In: 2, Out: 3}})).Done(t), []int{1}, []int{3}, "1")
	gives(t, of(sides.Rename(m, []api.Pair{{In: 2, Out: 0}, {In: 2, Out: 1}})).Done(t), []int{1}, nil, "1")
	of(sides.Rename(m, []api.Pair{{In: 0, Out: 1}})).Fails(t, api.ErrArg)
	of(sides.Rename(m, []api.Pair{{In: 1, Out: 501}})).Fails(t, api.ErrArg)
}

// P10.1: input and output of many machines, those with infinite sums among them.
func TestInvert(t *testing.T) {
	for _, kind := range kinds {
		eachMachine(kind, 250, func(a api.Machine) {
			want := samples.Relation{}
			for words, w := range relation(t, a) {
				want[[2]string{words[1], words[0]}] = w
			}
			m := of(sides.Invert(a)).Done(t, a)
			samples.Agree(t, relation(t, m), want, a)
			if m.Kind != kind {
				t.Fatalf("kind %d, not %d", m.Kind, kind)
			}
		})
	}
}

// swapped is a machine with its sides exchanged.
func swapped(m api.Machine) api.Machine {
	m = machine.Clone(m)
	for _, s := range m.States {
		for i, a := range s.Arcs {
			s.Arcs[i].In, s.Arcs[i].Out = a.Out, a.In
		}
	}
	return m
}

// P10.2: each input with the sum for all outputs, each output with the sum for all
// inputs; there are infinitely many of them in machines with cycles.
func TestSums(t *testing.T) {
	for _, kind := range kinds {
		infinite := 0
		eachMachine(kind, 250, func(a api.Machine) {
			in, out := of(sides.Input(a)).Done(t, a), of(sides.Output(a)).Done(t, a)
			if in.Kind != kind || out.Kind != kind || !machine.Acceptor(in) || !machine.Acceptor(out) {
				t.Fatalf("%v: %v, %v", a, in, out)
			}
			samples.Agree(t, relation(t, in), sums(t, a), "inputs", a)
			want := sums(t, swapped(a))
			samples.Agree(t, relation(t, out), want, "outputs", a)
			for _, w := range want {
				if w == "-inf" || w == "inf" && kind != api.Tropical {
					infinite++
				}
			}
		})
		if infinite < 10 {
			t.Errorf("%d: only %d infinite sums", kind, infinite)
		}
	}
}

// sums gives each word as an input the sum for all outputs.
func sums(t *testing.T, m api.Machine) samples.Relation {
	t.Helper()
	r := samples.Zeros(m.Kind)
	for _, x := range samples.Words(2) {
		w, e := weigh.Domain(m, x)
		if e != api.OK {
			t.Fatalf("%v: %v", m, e)
		}
		r[[2]string{samples.Text(x), samples.Text(x)}] = w
	}
	return r
}

// P10.2: the sums of the paths of machines that have finitely many.
func TestFiniteSums(t *testing.T) {
	for _, kind := range kinds {
		eachMachine(kind, 150, func(a api.Machine) {
			if !isFinite(a) {
				return
			}
			in := byPaths(a, func(p samples.Path) (x, y []int) { return p.X, p.X })
			samples.Agree(t, relation(t, of(sides.Input(a)).Done(t)), in, "inputs", a)
			out := byPaths(a, func(p samples.Path) (x, y []int) { return p.Y, p.Y })
			samples.Agree(t, relation(t, of(sides.Output(a)).Done(t)), out, "outputs", a)
		})
	}
}

// P10.3: both words backwards, of many machines.
func TestReverse(t *testing.T) {
	for _, kind := range kinds {
		eachMachine(kind, 250, func(a api.Machine) {
			want := samples.Relation{}
			for words, w := range relation(t, a) {
				want[[2]string{backwards(words[0]), backwards(words[1])}] = w
			}
			m := of(sides.Reverse(a)).Done(t, a)
			samples.Agree(t, relation(t, m), want, a)
			if m.Kind != kind {
				t.Fatalf("kind %d, not %d", m.Kind, kind)
			}
		})
	}
}

// P10.3: words of more symbols than the random machines have.
func TestReverseLong(t *testing.T) {
	x, y := []int{1, 2, 3, 4, 5, 500}, []int{7, 8, 9}
	w := of(build.Word(api.Viterbi, x, y, "1/7")).Done(t)
	m := of(sides.Reverse(w)).Done(t)
	gives(t, m, []int{500, 5, 4, 3, 2, 1}, []int{9, 8, 7}, "1/7")
	gives(t, m, x, y, "0")
}

// P10.4: the products of the values of two acceptors, those with infinite sums
// among them.
func TestCross(t *testing.T) {
	for _, kind := range kinds {
		eachPair(kind, 250, func(a, b api.Machine) {
			p, q := relation(t, a), relation(t, b)
			want := samples.Relation{}
			for words := range p {
				x, y := words[0], words[1]
				want[words], _ = semi.Times(kind, p[[2]string{x, x}], q[[2]string{y, y}])
			}
			m := of(sides.Cross(a, b)).Done(t, a, b)
			samples.Agree(t, relation(t, m), want, a, b)
			if m.Kind != kind {
				t.Fatalf("kind %d, not %d", m.Kind, kind)
			}
		})
	}
}

// P10.4: what is no acceptor, and acceptors of different kinds.
func TestCrossTypes(t *testing.T) {
	for _, kind := range kinds {
		a := of(build.Word(kind, []int{1}, []int{1}, "1")).Done(t)
		for _, x := range [][2][]int{{{1}, {2}}, {{1}, nil}, {nil, {1}}, {{1, 2}, {1}}} {
			b := of(build.Word(kind, x[0], x[1], "1")).Done(t)
			of(sides.Cross(a, b)).Fails(t, api.ErrType, x)
			of(sides.Cross(b, a)).Fails(t, api.ErrType, x)
			of(sides.Cross(b, b)).Fails(t, api.ErrType, x)
		}
		for _, other := range kinds {
			if other != kind {
				b := of(build.Word(other, []int{1}, []int{1}, "1")).Done(t)
				of(sides.Cross(a, b)).Fails(t, api.ErrType, kind, other)
			}
		}
		// An arc that is on no path counts.
		b := machine.Clone(a)
		b.States = append(b.States, api.State{Arcs: []api.Arc{{In: 1, W: "1"}}})
		of(sides.Cross(a, b)).Fails(t, api.ErrType, kind)
		of(sides.Cross(b, a)).Fails(t, api.ErrType, kind)
	}
}

// P10.1 to P10.5: machines that are not valid come before all other errors.
func TestWrong(t *testing.T) {
	for _, kind := range kinds {
		a := of(build.Word(kind, []int{1, 2}, []int{1, 2}, "1")).Done(t)
		other := of(build.Word(kind%3+1, []int{1, 2}, []int{1}, "1")).Done(t)
		for _, m := range samples.Broken(a) {
			of(sides.Invert(m)).Fails(t, api.ErrArg, m)
			of(sides.Input(m)).Fails(t, api.ErrArg, m)
			of(sides.Output(m)).Fails(t, api.ErrArg, m)
			of(sides.Reverse(m)).Fails(t, api.ErrArg, m)
			for _, b := range []api.Machine{a, other, m} {
				of(sides.Cross(m, b)).Fails(t, api.ErrArg, m)
				of(sides.Cross(b, m)).Fails(t, api.ErrArg, m)
			}
			of(sides.Rename(m, nil)).Fails(t, api.ErrArg, m)
			of(sides.Rename(m, []api.Pair{{In: 1, Out: 2}})).Fails(t, api.ErrArg, m)
			of(sides.Rename(m, []api.Pair{{}})).Fails(t, api.ErrArg, m)
		}
	}
}
