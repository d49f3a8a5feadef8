package semi_test

import (
	"cmp"
	"slices"
	"testing"

	"abugida/api"
	"abugida/semi"
)

// calculus computes in a kind of semiring with values whose results are short.
type calculus struct {
	*testing.T
	kind int
}

func (k calculus) plus(a, b string) string {
	return k.fine("Plus", semi.Plus, a, b)
}

func (k calculus) times(a, b string) string {
	return k.fine("Times", semi.Times, a, b)
}

func (k calculus) over(a, b string) string {
	return k.fine("Over", semi.Over, a, b)
}

func (k calculus) star(a string) string {
	c, e := semi.Star(k.kind, a)
	if e != api.OK {
		k.Fatalf("Star(%d, %s): %v", k.kind, a, e)
	}
	return c
}

func (k calculus) fine(name string, f func(kind int, a, b string) (string, api.Errno), a, b string) string {
	k.Helper()
	c, e := f(k.kind, a, b)
	if e != api.OK {
		k.Fatalf("%s(%d, %s, %s): %v", name, k.kind, a, b, e)
	}
	return c
}

// same checks an equation.
func (k calculus) same(law, left, right string) {
	k.Helper()
	if left != right {
		k.Fatalf("%d: %s: %s, %s", k.kind, law, left, right)
	}
}

// P4.5: the laws of two and three values.
func TestLaws(t *testing.T) {
	for _, kind := range kinds {
		k := calculus{t, kind}
		for _, a := range few(kind) {
			for _, b := range few(kind) {
				k.same("commutative", k.plus(a, b), k.plus(b, a))
				k.same("commutative", k.times(a, b), k.times(b, a))
				for _, c := range few(kind) {
					k.same("associative", k.plus(a, k.plus(b, c)), k.plus(k.plus(a, b), c))
					k.same("associative", k.times(a, k.times(b, c)), k.times(k.times(a, b), c))
					k.same("distributive", k.times(a, k.plus(b, c)), k.plus(k.times(a, b), k.times(a, c)))
				}
			}
		}
	}
}

// P4.5: the neutral values, which never make a value too long.
func TestNeutralLaws(t *testing.T) {
	for _, kind := range kinds {
		k := calculus{t, kind}
		zero, one := semi.Zero(kind), semi.One(kind)
		if !semi.Valid(kind, zero) || semi.Weight(kind, zero) || !semi.Weight(kind, one) {
			t.Errorf("%d: Zero is %s, One is %s", kind, zero, one)
		}
		for _, a := range values(kind) {
			k.same("Zero is neutral", k.plus(zero, a), a)
			k.same("One is neutral", k.times(one, a), a)
			k.same("Zero times a", k.times(zero, a), zero)
			k.same("a times Zero", k.times(a, zero), zero)
		}
	}
}

// P4.6: the star's equation, and finite sums that come close to it.
func TestStarLaw(t *testing.T) {
	for _, kind := range kinds {
		k := calculus{t, kind}
		for _, a := range few(kind) {
			k.same("star", k.star(a), k.plus(semi.One(kind), k.times(a, k.star(a))))
		}
		for _, a := range values(kind) {
			if c, e := semi.Star(kind, a); e != api.OK || !semi.Valid(kind, c) {
				t.Errorf("Star(%d, %s) = %q, %v", kind, a, c, e)
			}
		}
	}
	k := calculus{t, api.Probability}
	for _, a := range []string{"0", "1/3", "1/2", "2/3"} {
		power, total := "1", "0"
		for range 100 {
			total, power = k.plus(total, power), k.times(a, power)
		}
		// What is missing is the star times the power that comes next.
		k.same("finite sums", k.plus(total, k.times(power, k.star(a))), k.star(a))
	}
}

// P4.7: Plus chooses the better value, and Better is a total order, which Times keeps.
func TestOrderLaws(t *testing.T) {
	for _, kind := range kinds {
		k := calculus{t, kind}
		l := few(kind)
		better := func(a, b string) int {
			return semi.Better(kind, a, b)
		}
		slices.SortFunc(l, better)
		for i, a := range l {
			for j, b := range l {
				if c := better(a, b); c != cmp.Compare(i, j) {
					t.Errorf("Better(%d, %s, %s) = %d, but they are the values %d and %d", kind, a, b, c, i, j)
				}
				if kind != api.Probability {
					k.same("the better one", k.plus(a, b), l[min(i, j)])
				}
				for _, c := range l {
					if r := better(k.times(a, c), k.times(b, c)); r != 0 && r != better(a, b) {
						t.Errorf("%d: times %s reverses the order of %s and %s", kind, c, a, b)
					}
				}
			}
		}
	}
}

// P4.8: Over is the opposite of Times.
func TestDivisionLaws(t *testing.T) {
	for _, kind := range kinds {
		k := calculus{t, kind}
		for _, b := range few(kind) {
			if !semi.Weight(kind, b) {
				continue
			}
			for _, a := range few(kind) {
				if a == semi.Zero(kind) || semi.Weight(kind, a) {
					k.same("times the quotient", k.times(b, k.over(a, b)), a)
					k.same("the product divided", k.over(k.times(b, a), b), a)
				}
			}
		}
	}
}
