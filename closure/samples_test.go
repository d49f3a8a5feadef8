package closure_test

import (
	"math/rand/v2"
	"slices"
	"strings"

	"abugida/api"
	"abugida/samples"
)

var kinds = []int{api.Tropical, api.Probability, api.Viterbi}

// otherKinds are numbers that are no kinds.
var otherKinds = []int{0, -1, 4, 5, 1 << 8, 1<<8 + 1, 1<<32 + 1, 1<<63 - 1, -1 << 63}

// zero and one are the neutral values.
func zero(kind int) string {
	return map[int]string{api.Tropical: "inf", api.Probability: "0", api.Viterbi: "0"}[kind]
}

func one(kind int) string {
	return map[int]string{api.Tropical: "0", api.Probability: "1", api.Viterbi: "1"}[kind]
}

// long is 1 and zeros behind it: digits digits in all.
func long(digits int) string {
	return "1" + strings.Repeat("0", digits-1)
}

// values are values of a kind that have sums below, at and above the limits at
// which infinite sums begin to diverge.
func values(kind int) []string {
	if kind == api.Tropical {
		return []string{"inf", "0", "1", "-1", "2", "-1/2", "3/2", "-inf"}
	}
	return []string{"0", "1/2", "1/3", "1", "1/4", "2", "2/3", "inf"}
}

// weights are weights of a kind.
func weights(kind int) []string {
	return slices.DeleteFunc(values(kind), func(a string) bool {
		return a == "inf" || a == "-inf" || a == zero(kind)
	})
}

// wrong are strings that are no values of a kind.
func wrong(kind int) []string {
	l := []string{"", " ", "2/4", "1/0", "01", "-0", "+1", "1.5", " 1", "1 ", "1/1", "a", "Inf", "+inf", "\xff", "1 2", samples.Nines(401), "1/" + samples.Nines(401), strings.Repeat("9", 1<<16)}
	if kind != api.Tropical {
		l = append(l, "-1", "-1/2", "-inf")
	}
	return l
}

// filled returns a matrix with the same element at all places.
func filled(n int, v string) [][]string {
	a := make([][]string, n)
	for i := range a {
		a[i] = slices.Repeat([]string{v}, n)
	}
	return a
}

func unit(kind, n int) [][]string {
	a := filled(n, zero(kind))
	for i := range a {
		a[i][i] = one(kind)
	}
	return a
}

// ring returns a matrix in which each row has the same element at the place
// behind the diagonal, and the last one at the first place.
func ring(kind, n int, v string) [][]string {
	a := filled(n, zero(kind))
	for i := range a {
		a[i][(i+1)%n] = v
	}
	return a
}

// random returns a matrix of some of the values, with Zero at about so many of a
// hundred places.
func random(r *rand.Rand, kind, n, zeros int) [][]string {
	l := values(kind)
	if r.IntN(2) == 0 {
		// Without what makes all sums infinite at once.
		l = weights(kind)
	}
	a := filled(n, zero(kind))
	for i := range a {
		for j := range a[i] {
			if r.IntN(100) >= zeros {
				a[i][j] = l[r.IntN(len(l))]
			}
		}
	}
	if n > 1 && r.IntN(3) == 0 {
		copy(a[r.IntN(n)], a[r.IntN(n)])
	}
	return a
}

// small returns a matrix of many different values, whose sums are finite.
func small(r *rand.Rand, kind, n int) [][]string {
	l := []string{"1/7", "1/11", "2/13", "3/19", "1/5", "1/23", "5/29"}
	a := filled(n, zero(kind))
	for i := range a {
		for j := range a[i] {
			if r.IntN(2) == 0 {
				a[i][j] = l[r.IntN(len(l))]
			}
		}
	}
	return a
}

// eachMatrix visits all matrices of at most two rows of the values, and random
// ones of at most six rows.
func eachMatrix(kind int, visit func(a [][]string)) {
	visit(nil)
	l := values(kind)
	for _, v := range l {
		visit([][]string{{v}})
		for _, w := range l {
			for _, x := range l {
				for _, y := range l {
					visit([][]string{{v, w}, {x, y}})
				}
			}
		}
	}
	r := rand.New(rand.NewPCG(7, uint64(kind)))
	for i := range 1200 {
		visit(random(r, kind, 3+i%4, i%100))
	}
	for i := range 150 {
		visit(small(r, kind, 2+i%5))
	}
}

// eachMachine visits random machines, with and without cycles.
func eachMachine(kind int, visit func(m api.Machine, cycles bool)) {
	r := rand.New(rand.NewPCG(77, uint64(kind)))
	for i := range 1200 {
		cycles := i%3 > 0
		visit(samples.Random(r.IntN, kind, 1+i%6, r.IntN(12), cycles), cycles)
	}
}

// twin is a copy of a matrix that has spare capacity in each slice.
func twin(a [][]string) [][]string {
	b := append(slices.Clone(a), []string{"spare"}, []string{"spare"})[:len(a)]
	for i, row := range a {
		b[i] = append(slices.Clone(row), "spare", "spare")[:len(row)]
	}
	return b
}
