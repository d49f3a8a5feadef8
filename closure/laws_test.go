package closure_test

import (
	"math/rand/v2"
	"testing"
)

// P7.3: one step more in front or behind changes nothing.
func TestOneStepMore(t *testing.T) {
	for _, kind := range kinds {
		eachMatrix(kind, func(a [][]string) {
			b := starOf(t, kind, a)
			x, y := read(a), read(b)
			before := write(sumOf(kind, read(unit(kind, len(a))), productOf(kind, x, y)))
			behind := write(sumOf(kind, read(unit(kind, len(a))), productOf(kind, y, x)))
			if !equal(before, b) || !equal(behind, b) {
				t.Fatalf("%d: Star of %q is %q, but one step more makes %q and %q", kind, a, b, before, behind)
			}
		})
	}
}

// P7.4: the order of the places does not matter.
func TestRenumbering(t *testing.T) {
	r := rand.New(rand.NewPCG(7, 3))
	for _, kind := range kinds {
		eachMatrix(kind, func(a [][]string) {
			to := r.Perm(len(a))
			if b, c := starOf(t, kind, a), starOf(t, kind, renumbered(a, to)); !equal(renumbered(b, to), c) {
				t.Fatalf("%d: Star of %q is %q, but %q in the order %v", kind, a, b, c, to)
			}
		})
	}
}

func renumbered(a [][]string, to []int) [][]string {
	b := filled(len(a), "")
	for i := range a {
		for j := range a {
			b[to[i]][to[j]] = a[i][j]
		}
	}
	return b
}

// P7.5: without ways back, there are only as many powers as rows.
func TestFiniteSums(t *testing.T) {
	for _, kind := range kinds {
		eachMatrix(kind, func(a [][]string) {
			c := filled(len(a), zero(kind))
			for i := range a {
				copy(c[i][i+1:], a[i][i+1:])
			}
			b := starOf(t, kind, c)
			if want := write(first(kind, read(c), len(c))); !equal(b, want) {
				t.Fatalf("%d: Star of %q is %q, not %q", kind, c, b, want)
			}
		})
	}
}

// P7.6: no walk is better than the sum. A walk with one step more is, at each
// place, one of those with all shorter ones.
func TestWalks(t *testing.T) {
	for _, kind := range kinds {
		eachMatrix(kind, func(a [][]string) {
			b, x := read(starOf(t, kind, a)), read(a)
			power := x
			for steps := range 8 {
				for i := range a {
					for j := range a {
						if better(kind, power[i][j], b[i][j]) {
							t.Fatalf("%d: Star of %q is %q, but a walk of %d steps from %d to %d is %s", kind, a, write(b), steps+1, i, j, power[i][j].text())
						}
					}
				}
				power = bestSteps(kind, power, x)
			}
		})
	}
}

// bestSteps returns the best walks of a matrix with a step more; also for
// Probability, where Plus is not the better one.
func bestSteps(kind int, a, b [][]value) [][]value {
	c := read(filled(len(a), zero(kind)))
	for i := range a {
		for j := range a {
			for k := range a {
				if w := times(kind, a[i][k], b[k][j]); better(kind, w, c[i][j]) {
					c[i][j] = w
				}
			}
		}
	}
	return c
}
