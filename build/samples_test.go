package build_test

import (
	"fmt"
	"math/rand/v2"
	"reflect"
	"testing"

	"abugida/api"
	"abugida/build"
	"abugida/machine"
	"abugida/samples"
	"abugida/semi"
	"abugida/weigh"
)

var kinds = []int{api.Tropical, api.Probability, api.Viterbi}

// one and two are the machines a and b of the chapter's examples.
func one(t *testing.T) api.Machine {
	return of(build.Word(api.Tropical, []int{1}, []int{2}, "3")).done(t)
}

func two(t *testing.T) api.Machine {
	return of(build.Word(api.Tropical, []int{1}, []int{2}, "5")).done(t)
}

// answer is what a call returns.
type answer struct {
	m api.Machine
	e api.Errno
}

func of(m api.Machine, e api.Errno) answer {
	return answer{m, e}
}

// done returns the machine, which must be valid.
func (a answer) done(t *testing.T, what ...any) api.Machine {
	t.Helper()
	if a.e != api.OK || !machine.Valid(a.m) {
		t.Fatalf("%.300s: %.300v, %v", fmt.Sprint(what...), a.m, a.e)
	}
	return a.m
}

// fails checks that there is an error, and no machine with it.
func (a answer) fails(t *testing.T, e api.Errno, what ...any) {
	t.Helper()
	if a.e != e || !reflect.DeepEqual(a.m, api.Machine{}) {
		t.Errorf("%.300s: %.300v, %v, not %v", fmt.Sprint(what...), a.m, a.e, e)
	}
}

// gives checks the value of a pair of words.
func gives(t *testing.T, m api.Machine, x, y []int, want string) {
	t.Helper()
	w, e := weigh.Weight(m, x, y)
	if w != want || e != api.OK {
		t.Errorf("%.300s of %v, %v: %.100s, %v, not %.100s", fmt.Sprint(m), x, y, w, e, want)
	}
}

// relation returns the values of all pairs of words of at most two symbols.
func relation(t *testing.T, m api.Machine) samples.Relation {
	t.Helper()
	r, e := samples.RelationOf(m, 2)
	if e != api.OK {
		t.Fatalf("%.300v: %v", m, e)
	}
	return r
}

// same checks that two machines have the same relation.
func same(t *testing.T, a, b api.Machine, what ...any) {
	t.Helper()
	agree(t, relation(t, a), relation(t, b), what...)
}

// agree checks that all pairs of words have the values that they should have.
func agree(t *testing.T, got, want samples.Relation, what ...any) {
	t.Helper()
	for words, w := range want {
		if got[words] != w {
			t.Fatalf("%.600s: %s gets %s, not %s", fmt.Sprint(what...), words, got[words], w)
		}
	}
}

// eachMachine visits random machines of a kind.
func eachMachine(kind, n int, visit func(m api.Machine)) {
	r := rand.New(rand.NewPCG(9, uint64(kind)))
	for i := range n {
		visit(samples.Random(r.IntN, kind, 1+i%4, r.IntN(9), i%3 > 0))
	}
}

// eachPair visits pairs of random machines of a kind.
func eachPair(kind, n int, visit func(a, b api.Machine)) {
	r := rand.New(rand.NewPCG(99, uint64(kind)))
	eachMachine(kind, n, func(a api.Machine) {
		visit(a, samples.Random(r.IntN, kind, 1+r.IntN(4), r.IntN(9), r.IntN(3) > 0))
	})
}

// plus and times add and multiply values.
func plus(kind int, a, b string) string {
	c, _ := semi.Plus(kind, a, b)
	return c
}

func times(kind int, a, b string) string {
	c, _ := semi.Times(kind, a, b)
	return c
}
