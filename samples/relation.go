package samples

import (
	"abugida/api"
	"abugida/semi"
	"abugida/weigh"
)

// Relation has the values of some pairs of words, which are written with a byte
// for each symbol.
type Relation map[[2]string]string

// Zeros gives Zero to the pairs of words of at most two symbols from 1 to 2.
func Zeros(kind int) Relation {
	r := Relation{}
	l := Words(2)
	for _, x := range l {
		for _, y := range l {
			r[[2]string{Text(x), Text(y)}] = semi.Zero(kind)
		}
	}
	return r
}

// RelationOf returns the values that a machine gives the pairs of words of at most
// two symbols from 1 to 2.
func RelationOf(t Test, m api.Machine) Relation {
	t.Helper()
	r := Relation{}
	l := Words(2)
	for _, x := range l {
		for _, y := range l {
			w, e := weigh.Weight(m, x, y)
			if e != api.OK {
				t.Fatalf("%.100v of %v, %v: %v", short(m), x, y, e)
			}
			r[[2]string{Text(x), Text(y)}] = w
		}
	}
	return r
}

// Agree checks that all pairs of words have the values that they should have.
func Agree(t Test, got, want Relation, what ...any) {
	t.Helper()
	if len(got) != len(want) {
		t.Fatalf("%.100v: %d values, not %d", what, len(got), len(want))
	}
	for words, w := range want {
		if got[words] != w {
			t.Fatalf("%.100v: %s gets %.100s, not %.100s", what, words, got[words], w)
		}
	}
}

// Alike checks that two machines give the same values to these pairs of words.
func Alike(t Test, a, b api.Machine, what ...any) {
	t.Helper()
	Agree(t, RelationOf(t, a), RelationOf(t, b), what...)
}

// Gives checks the value of a pair of words.
func Gives(t Test, m api.Machine, x, y []int, want string) {
	t.Helper()
	w, e := weigh.Weight(m, x, y)
	if w != want || e != api.OK {
		t.Errorf("%.100v of %v, %v: %.100s, %v, not %.100s", short(m), x, y, w, e, want)
	}
}

// Text writes a word as a relation has it.
func Text(x []int) string {
	l := make([]byte, len(x))
	for i, a := range x {
		l[i] = byte('0' + a)
	}
	return string(l)
}
