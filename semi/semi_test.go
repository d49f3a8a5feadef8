package semi_test

import (
	"math/rand/v2"
	"slices"
	"testing"

	"abugida/api"
	"abugida/semi"
)

// P4.1: the values of each kind.
func TestValid(t *testing.T) {
	for _, kind := range kinds {
		for _, a := range slices.Concat(positives(), []string{"0", "inf"}) {
			if !semi.Valid(kind, a) {
				t.Errorf("Valid(%d, %s) = false", kind, a)
			}
		}
		for _, a := range append(negatives(), "-inf") {
			if semi.Valid(kind, a) != (kind == api.Tropical) {
				t.Errorf("Valid(%d, %s) = %t", kind, a, kind != api.Tropical)
			}
		}
		for _, a := range wrong() {
			if semi.Valid(kind, a) {
				t.Errorf("Valid(%d, %.50q) = true", kind, a)
			}
		}
	}
}

// P4.1: the weights of each kind.
func TestWeight(t *testing.T) {
	for _, kind := range kinds {
		for _, a := range positives() {
			if !semi.Weight(kind, a) {
				t.Errorf("Weight(%d, %s) = false", kind, a)
			}
		}
		for _, a := range append(negatives(), "0") {
			if semi.Weight(kind, a) != (kind == api.Tropical) {
				t.Errorf("Weight(%d, %s) = %t", kind, a, kind != api.Tropical)
			}
		}
		for _, a := range append(wrong(), "inf", "-inf") {
			if semi.Weight(kind, a) {
				t.Errorf("Weight(%d, %.50q) = true", kind, a)
			}
		}
	}
}

// P4.1: Zero and One.
func TestNeutral(t *testing.T) {
	want := map[int][2]string{api.Tropical: {"inf", "0"}, api.Probability: {"0", "1"}, api.Viterbi: {"0", "1"}}
	for _, kind := range append(otherKinds, kinds...) {
		if got := [2]string{semi.Zero(kind), semi.One(kind)}; got != want[kind] {
			t.Errorf("Zero(%d), One(%d) = %q", kind, kind, got)
		}
	}
}

// P4.1 to P4.4: numbers that are no kinds have no values.
func TestOtherKinds(t *testing.T) {
	l := []string{"", "0", "1", "-1", "1/2", "inf", "-inf", "2/4", "x"}
	for _, kind := range otherKinds {
		for _, a := range l {
			if semi.Valid(kind, a) || semi.Weight(kind, a) {
				t.Errorf("Valid(%d, %s), Weight = true", kind, a)
			}
			if c, e := semi.Star(kind, a); c != "" || e != api.ErrArg {
				t.Errorf("Star(%d, %s) = %q, %v", kind, a, c, e)
			}
			for _, b := range l {
				checkRefused(t, kind, a, b)
				if c, e := semi.Over(kind, a, b); c != "" || e != api.ErrArg {
					t.Errorf("Over(%d, %s, %s) = %q, %v", kind, a, b, c, e)
				}
			}
		}
	}
}

// checkRefused checks Plus, Times and Better for arguments of which one is wrong.
func checkRefused(t *testing.T, kind int, a, b string) {
	t.Helper()
	if c, e := semi.Plus(kind, a, b); c != "" || e != api.ErrArg {
		t.Errorf("Plus(%d, %.50q, %.50q) = %q, %v", kind, a, b, c, e)
	}
	if c, e := semi.Times(kind, a, b); c != "" || e != api.ErrArg {
		t.Errorf("Times(%d, %.50q, %.50q) = %q, %v", kind, a, b, c, e)
	}
	if c := semi.Better(kind, a, b); c != 0 {
		t.Errorf("Better(%d, %.50q, %.50q) = %d", kind, a, b, c)
	}
}

// P4.2, P4.4: arguments that are not values, on each side, also beside those
// that would decide the result.
func TestRefused(t *testing.T) {
	for _, kind := range kinds {
		not := wrong()
		if kind != api.Tropical {
			not = append(not, "-inf", "-1", "-1/2")
		}
		for _, a := range not {
			for _, b := range append(not[:3:3], "0", "1", "1/2", "inf", "-inf", long(400)) {
				checkRefused(t, kind, a, b)
				checkRefused(t, kind, b, a)
			}
			if c, e := semi.Star(kind, a); c != "" || e != api.ErrArg {
				t.Errorf("Star(%d, %.50q) = %q, %v", kind, a, c, e)
			}
		}
	}
}

// P4.2: the chapter's examples, and the table's words for inf, -inf and 0.
func TestOperations(t *testing.T) {
	for _, x := range []struct {
		kind        int
		a, b        string
		plus, times string
	}{
		{api.Tropical, "1/2", "3", "1/2", "7/2"},
		{api.Tropical, "1", "-1/2", "-1/2", "1/2"},
		{api.Tropical, "-2", "2", "-2", "0"},
		{api.Tropical, "inf", "-inf", "-inf", "inf"},
		{api.Tropical, "inf", "5", "5", "inf"},
		{api.Tropical, "inf", "-5", "-5", "inf"},
		{api.Tropical, "inf", "0", "0", "inf"},
		{api.Tropical, "inf", "inf", "inf", "inf"},
		{api.Tropical, "-inf", "5", "-inf", "-inf"},
		{api.Tropical, "-inf", "-5", "-inf", "-inf"},
		{api.Tropical, "-inf", "0", "-inf", "-inf"},
		{api.Tropical, "-inf", "-inf", "-inf", "-inf"},
		{api.Probability, "1/2", "3", "7/2", "3/2"},
		{api.Probability, "1/6", "1/3", "1/2", "1/18"},
		{api.Probability, "0", "inf", "inf", "0"},
		{api.Probability, "0", "0", "0", "0"},
		{api.Probability, "0", "3", "3", "0"},
		{api.Probability, "1/2", "inf", "inf", "inf"},
		{api.Probability, "inf", "inf", "inf", "inf"},
		{api.Viterbi, "1/2", "3", "3", "3/2"},
		{api.Viterbi, "1/6", "1/3", "1/3", "1/18"},
		{api.Viterbi, "0", "inf", "inf", "0"},
		{api.Viterbi, "0", "0", "0", "0"},
		{api.Viterbi, "0", "3", "3", "0"},
		{api.Viterbi, "1/2", "inf", "inf", "inf"},
		{api.Viterbi, "inf", "inf", "inf", "inf"},
	} {
		for _, y := range [][2]string{{x.a, x.b}, {x.b, x.a}} {
			if c, e := semi.Plus(x.kind, y[0], y[1]); c != x.plus || e != api.OK {
				t.Errorf("Plus(%d, %s, %s) = %q, %v", x.kind, y[0], y[1], c, e)
			}
			if c, e := semi.Times(x.kind, y[0], y[1]); c != x.times || e != api.OK {
				t.Errorf("Times(%d, %s, %s) = %q, %v", x.kind, y[0], y[1], c, e)
			}
		}
	}
}

// P4.2: the edges of the star's cases.
func TestStar(t *testing.T) {
	for _, x := range []struct {
		kind int
		a, c string
	}{
		{api.Tropical, "-1", "-inf"},
		{api.Tropical, "-1/" + nines(400), "-inf"},
		{api.Tropical, "-inf", "-inf"},
		{api.Tropical, "0", "0"},
		{api.Tropical, "1/2", "0"},
		{api.Tropical, "inf", "0"},
		{api.Probability, "0", "1"},
		{api.Probability, "1/3", "3/2"},
		{api.Probability, "1/2", "2"},
		{api.Probability, nines(400)[1:] + "8/" + nines(400), nines(400)},
		{api.Probability, "1/" + nines(400), nines(400) + "/" + nines(399) + "8"},
		{api.Probability, "1", "inf"},
		{api.Probability, nines(400) + "/" + nines(399) + "8", "inf"},
		{api.Probability, "2", "inf"},
		{api.Probability, "inf", "inf"},
		{api.Viterbi, "0", "1"},
		{api.Viterbi, "1/3", "1"},
		{api.Viterbi, "1", "1"},
		{api.Viterbi, nines(400) + "/" + nines(399) + "8", "inf"},
		{api.Viterbi, "3/2", "inf"},
		{api.Viterbi, "inf", "inf"},
	} {
		if c, e := semi.Star(x.kind, x.a); c != x.c || e != api.OK {
			t.Errorf("Star(%d, %s) = %q, %v", x.kind, x.a, c, e)
		}
	}
}

// P4.2: only a result that is a number can be too long.
func TestLong(t *testing.T) {
	for _, x := range []struct {
		f    func(kind int, a, b string) (string, api.Errno)
		kind int
		a, b string
		c    string
		e    api.Errno
	}{
		{semi.Times, api.Tropical, nines(400), "1", "", api.ErrLong},
		{semi.Times, api.Tropical, "-" + nines(400), "-1", "", api.ErrLong},
		{semi.Times, api.Tropical, nines(400), "-1", nines(399) + "8", api.OK},
		{semi.Times, api.Tropical, "1/" + nines(400), "1/" + long(400), "", api.ErrLong},
		{semi.Times, api.Tropical, nines(400), "inf", "inf", api.OK},
		{semi.Times, api.Tropical, nines(400), "-inf", "-inf", api.OK},
		{semi.Plus, api.Tropical, nines(400), nines(400), nines(400), api.OK},
		{semi.Over, api.Tropical, nines(400), "-1", "", api.ErrLong},
		{semi.Over, api.Tropical, "-" + nines(400), "1", "", api.ErrLong},
		{semi.Over, api.Tropical, nines(400), "1", nines(399) + "8", api.OK},
		{semi.Over, api.Tropical, "inf", "-" + nines(400), "inf", api.OK},
		{semi.Plus, api.Probability, nines(400), "1", "", api.ErrLong},
		{semi.Plus, api.Probability, nines(400), "0", nines(400), api.OK},
		{semi.Plus, api.Probability, nines(400), "inf", "inf", api.OK},
		{semi.Times, api.Probability, long(400), "9", "9" + long(400)[1:], api.OK},
		{semi.Times, api.Probability, long(400), "10", "", api.ErrLong},
		{semi.Times, api.Probability, "1/" + long(400), "1/10", "", api.ErrLong},
		{semi.Times, api.Probability, long(400), "1/" + long(400), "1", api.OK},
		{semi.Times, api.Probability, long(400), "0", "0", api.OK},
		{semi.Over, api.Probability, long(400), "1/10", "", api.ErrLong},
		{semi.Over, api.Probability, long(400), long(400), "1", api.OK},
		{semi.Over, api.Probability, "0", long(400), "0", api.OK},
		{semi.Plus, api.Viterbi, nines(400), nines(400), nines(400), api.OK},
		{semi.Times, api.Viterbi, long(400), "10", "", api.ErrLong},
		{semi.Times, api.Viterbi, long(400), "inf", "inf", api.OK},
		{semi.Over, api.Viterbi, "1/" + long(400), "10", "", api.ErrLong},
	} {
		if c, e := x.f(x.kind, x.a, x.b); c != x.c || e != x.e {
			t.Errorf("%d, %.30s, %.30s: %.30q, %v, not %.30q, %v", x.kind, x.a, x.b, c, e, x.c, x.e)
		}
	}
}

// eachPair visits pairs of values of a kind: all of a list with the longest
// ones, and irregular ones.
func eachPair(kind int, visit func(a, b string)) {
	l := values(kind)
	for _, a := range l {
		for _, b := range l {
			visit(a, b)
		}
	}
	s := rand.New(rand.NewPCG(2, 2))
	for range 500 {
		visit(fraction(s, 2), fraction(s, 3))
		visit(fraction(s, 12), fraction(s, 12))
	}
}

// P4.2, P4.3, P4.4: all operations, against the chapter's table computed with big.Rat.
func TestAll(t *testing.T) {
	for _, kind := range kinds {
		eachPair(kind, func(a, b string) {
			v, w := of(a), of(b)
			if c, e := semi.Plus(kind, a, b); !is(c, e, expectedPlus(kind, v, w)) {
				t.Fatalf("Plus(%d, %s, %s) = %q, %v", kind, a, b, c, e)
			}
			if c, e := semi.Times(kind, a, b); !is(c, e, expectedTimes(kind, v, w)) {
				t.Fatalf("Times(%d, %s, %s) = %q, %v", kind, a, b, c, e)
			}
			if c, e := semi.Star(kind, a); !is(c, e, expectedStar(kind, v)) {
				t.Fatalf("Star(%d, %s) = %q, %v", kind, a, c, e)
			}
			better := order(v, w)
			if kind != api.Tropical {
				better = -better
			}
			if c := semi.Better(kind, a, b); c != better {
				t.Fatalf("Better(%d, %s, %s) = %d", kind, a, b, c)
			}
		})
		for _, b := range weights(kind) {
			for _, a := range append(weights(kind), semi.Zero(kind)) {
				if c, e := semi.Over(kind, a, b); !is(c, e, expectedOver(kind, of(a), of(b))) {
					t.Fatalf("Over(%d, %s, %s) = %q, %v", kind, a, b, c, e)
				}
			}
		}
	}
}

// is reports whether c and e are the result of a function whose result is v.
func is(c string, e api.Errno, v value) bool {
	want, none := result(v)
	return c == want && e == none
}

// P4.3: the chapter's examples, and what cannot be divided or divided by.
func TestOver(t *testing.T) {
	for _, x := range []struct {
		kind int
		a, b string
		c    string
		e    api.Errno
	}{
		{api.Tropical, "1", "3", "-2", api.OK},
		{api.Tropical, "1/2", "-1/3", "5/6", api.OK},
		{api.Tropical, "0", "0", "0", api.OK},
		{api.Tropical, "inf", "3", "inf", api.OK},
		{api.Tropical, "-inf", "3", "", api.ErrArg},
		{api.Tropical, "3", "inf", "", api.ErrArg},
		{api.Tropical, "3", "-inf", "", api.ErrArg},
		{api.Tropical, "inf", "inf", "", api.ErrArg},
		{api.Tropical, "inf", "-inf", "", api.ErrArg},
		{api.Tropical, "-inf", "-inf", "", api.ErrArg},
		{api.Probability, "1/2", "2/3", "3/4", api.OK},
		{api.Probability, "0", "2/3", "0", api.OK},
		{api.Probability, "0", "0", "", api.ErrArg},
		{api.Probability, "1", "0", "", api.ErrArg},
		{api.Probability, "inf", "1", "", api.ErrArg},
		{api.Probability, "0", "inf", "", api.ErrArg},
		{api.Probability, "1", "inf", "", api.ErrArg},
		{api.Probability, "-1", "1", "", api.ErrArg},
		{api.Probability, "1", "-1", "", api.ErrArg},
		{api.Probability, "-1", "-1", "", api.ErrArg},
		{api.Viterbi, "1/2", "2/3", "3/4", api.OK},
		{api.Viterbi, "0", "5", "0", api.OK},
		{api.Viterbi, "1", "0", "", api.ErrArg},
		{api.Viterbi, "0", "0", "", api.ErrArg},
		{api.Viterbi, "inf", "1", "", api.ErrArg},
		{api.Viterbi, "1", "inf", "", api.ErrArg},
		{api.Viterbi, "-1/2", "1", "", api.ErrArg},
		{api.Viterbi, "1", "-1/2", "", api.ErrArg},
	} {
		if c, e := semi.Over(x.kind, x.a, x.b); c != x.c || e != x.e {
			t.Errorf("Over(%d, %s, %s) = %q, %v", x.kind, x.a, x.b, c, e)
		}
	}
	for _, kind := range kinds {
		for _, a := range wrong() {
			for _, b := range []string{"1", "0", "inf", long(400), a} {
				if c, e := semi.Over(kind, a, b); c != "" || e != api.ErrArg {
					t.Errorf("Over(%d, %.50q, %.50q) = %q, %v", kind, a, b, c, e)
				}
				if c, e := semi.Over(kind, b, a); c != "" || e != api.ErrArg {
					t.Errorf("Over(%d, %.50q, %.50q) = %q, %v", kind, b, a, c, e)
				}
			}
		}
	}
}

// P4.4: the chapter's examples, and inf.
func TestBetter(t *testing.T) {
	for _, x := range []struct {
		kind int
		a, b string
		c    int
	}{
		{api.Tropical, "1", "2", -1},
		{api.Tropical, "-inf", "0", -1},
		{api.Tropical, "-inf", "-" + nines(400), -1},
		{api.Tropical, "-inf", "inf", -1},
		{api.Tropical, nines(400), "inf", -1},
		{api.Tropical, "inf", "inf", 0},
		{api.Tropical, "-inf", "-inf", 0},
		{api.Tropical, "-1/2", "-1/2", 0},
		{api.Tropical, "-1/2", "-1/3", -1},
		{api.Probability, "2", "1", -1},
		{api.Probability, "1/" + nines(400), "0", -1},
		{api.Probability, "inf", nines(400), -1},
		{api.Probability, "inf", "0", -1},
		{api.Probability, "inf", "inf", 0},
		{api.Probability, "0", "0", 0},
		{api.Viterbi, "2", "1", -1},
		{api.Viterbi, "1/2", "1/3", -1},
		{api.Viterbi, "inf", "1", -1},
		{api.Viterbi, "inf", "inf", 0},
	} {
		if c := semi.Better(x.kind, x.a, x.b); c != x.c {
			t.Errorf("Better(%d, %.30s, %.30s) = %d", x.kind, x.a, x.b, c)
		}
		if c := semi.Better(x.kind, x.b, x.a); c != -x.c {
			t.Errorf("Better(%d, %.30s, %.30s) = %d", x.kind, x.b, x.a, c)
		}
	}
}
