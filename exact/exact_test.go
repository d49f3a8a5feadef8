package exact_test

import (
	"strings"
	"testing"

	"abugida/api"
	"abugida/exact"
	"abugida/semi"
)

// values are values of a kind, the neutral ones among them.
func values(kind int) []string {
	l := []string{"0", "1", "2", "1/3", "5/2", "inf"}
	if kind == api.Tropical {
		l = append(l, "-1", "-2/7", "-inf")
	}
	return l
}

// The operations are those of the semiring.
func TestOperations(t *testing.T) {
	for kind := api.Tropical; kind <= api.Viterbi; kind++ {
		s := exact.Of(kind)
		if s.Zero != semi.Zero(kind) || s.One != semi.One(kind) {
			t.Errorf("%d: Zero is %s, One is %s", kind, s.Zero, s.One)
		}
		for _, a := range values(kind) {
			if c, _ := semi.Star(kind, a); s.Star(a) != c {
				t.Errorf("%d: the star of %s is %s", kind, a, s.Star(a))
			}
			for _, b := range values(kind) {
				if c, _ := semi.Plus(kind, a, b); s.Plus(a, b) != c {
					t.Errorf("%d: %s plus %s is %s", kind, a, b, s.Plus(a, b))
				}
				if c, _ := semi.Times(kind, a, b); s.Times(a, b) != c {
					t.Errorf("%d: %s times %s is %s", kind, a, b, s.Times(a, b))
				}
			}
		}
	}
}

// A result that is too long ends the computation.
func TestAttempt(t *testing.T) {
	most := strings.Repeat("9", 400)
	s := exact.Of(api.Probability)
	for _, compute := range []func() string{
		func() string { return s.Plus(most, "1") },
		func() string { return s.Times("1/"+most, "1/2") },
		func() string { return exact.Must("result", api.ErrLong) },
	} {
		reached := false
		w, e := exact.Attempt(func() string {
			w := compute()
			reached = true
			return w
		})
		if w != "" || e != api.ErrLong || reached {
			t.Errorf("%.50q, %v, %t", w, e, reached)
		}
	}
	if w, e := exact.Attempt(func() string { return s.Plus(most, "0") }); w != most || e != api.OK {
		t.Errorf("%.50q, %v", w, e)
	}
	if n, e := exact.Attempt(func() int { return exact.Must(7, api.OK) }); n != 7 || e != api.OK {
		t.Errorf("%d, %v", n, e)
	}
}
