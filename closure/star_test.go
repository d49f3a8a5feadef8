package closure_test

import (
	"math/big"
	"math/rand/v2"
	"reflect"
	"slices"
	"strconv"
	"testing"

	"abugida/api"
	"abugida/closure"
	"abugida/samples"
)

// equal reports whether two matrices are equal; nil and empty ones are.
func equal(a, b [][]string) bool {
	return slices.EqualFunc(a, b, func(x, y []string) bool { return slices.Equal(x, y) })
}

// starOf is Star of a matrix for which it must not fail.
func starOf(t *testing.T, kind int, a [][]string) [][]string {
	t.Helper()
	b, e := closure.Star(kind, a)
	if e != api.OK {
		t.Fatalf("Star(%d, %.300q): %v", kind, a, e)
	}
	return b
}

// P7.1: the examples, and elements of each sort.
func TestStarExamples(t *testing.T) {
	type matrix = [][]string
	for _, x := range []struct {
		kind int
		a, b matrix
	}{
		{api.Tropical, matrix{{"1", "2"}, {"inf", "3"}}, matrix{{"0", "2"}, {"inf", "0"}}},
		{api.Probability, matrix{{"1/2", "1/4"}, {"0", "1/3"}}, matrix{{"2", "3/4"}, {"0", "3/2"}}},
		{api.Viterbi, matrix{{"1/2", "2"}, {"1/4", "0"}}, matrix{{"1", "2"}, {"1/4", "1"}}},
		{api.Tropical, matrix{{"-1"}}, matrix{{"-inf"}}},
		{api.Probability, matrix{{"1"}}, matrix{{"inf"}}},
		{api.Viterbi, matrix{{"2"}}, matrix{{"inf"}}},
		{api.Tropical, nil, nil},
		{api.Probability, matrix{}, nil},
		{api.Viterbi, nil, nil},
		{api.Tropical, matrix{{"inf"}}, matrix{{"0"}}},
		{api.Tropical, matrix{{"0"}}, matrix{{"0"}}},
		{api.Tropical, matrix{{"-inf"}}, matrix{{"-inf"}}},
		{api.Probability, matrix{{"0"}}, matrix{{"1"}}},
		{api.Probability, matrix{{"inf"}}, matrix{{"inf"}}},
		{api.Viterbi, matrix{{"1"}}, matrix{{"1"}}},
		{api.Viterbi, matrix{{"0"}}, matrix{{"1"}}},
		// A cycle whose product is just below, at and above One.
		{api.Tropical, matrix{{"inf", "3/2"}, {"-3/2", "inf"}}, matrix{{"0", "3/2"}, {"-3/2", "0"}}},
		{api.Tropical, matrix{{"inf", "3/2"}, {"-8/5", "inf"}}, matrix{{"-inf", "-inf"}, {"-inf", "-inf"}}},
		{api.Probability, matrix{{"0", "3/2"}, {"2/3", "0"}}, matrix{{"inf", "inf"}, {"inf", "inf"}}},
		{api.Probability, matrix{{"0", "3/2"}, {"1/2", "0"}}, matrix{{"4", "6"}, {"2", "4"}}},
		{api.Viterbi, matrix{{"0", "3/2"}, {"2/3", "0"}}, matrix{{"1", "3/2"}, {"2/3", "1"}}},
		{api.Viterbi, matrix{{"0", "3/2"}, {"3/4", "0"}}, matrix{{"inf", "inf"}, {"inf", "inf"}}},
		// Two loops that are infinite together only.
		{api.Probability, matrix{{"1/2", "1/2"}, {"1/2", "1/2"}}, matrix{{"inf", "inf"}, {"inf", "inf"}}},
		{api.Probability, matrix{{"1/3", "1/3"}, {"1/3", "1/3"}}, matrix{{"2", "1"}, {"1", "2"}}},
		// Equal rows, and rows whose elements look equal only one after the other.
		{api.Tropical, matrix{{"1", "2"}, {"1", "2"}}, matrix{{"0", "2"}, {"1", "0"}}},
		{api.Tropical, matrix{{"1", "12"}, {"11", "2"}}, matrix{{"0", "12"}, {"11", "0"}}},
		// An infinite sum that is on no way from the one place to the other.
		{api.Tropical, matrix{{"-1", "inf"}, {"2", "inf"}}, matrix{{"-inf", "inf"}, {"-inf", "0"}}},
		{api.Probability, matrix{{"1", "0"}, {"2", "0"}}, matrix{{"inf", "0"}, {"inf", "1"}}},
		{api.Viterbi, matrix{{"0", "1/2"}, {"0", "inf"}}, matrix{{"1", "inf"}, {"0", "inf"}}},
	} {
		if b, e := closure.Star(x.kind, x.a); e != api.OK || !equal(b, x.b) {
			t.Errorf("Star(%d, %q) = %q, %v", x.kind, x.a, b, e)
		}
	}
}

// P7.1: matrices of up to six rows, against a computation of their walks, or of
// the inverse of I - a.
func TestStar(t *testing.T) {
	for _, kind := range kinds {
		eachMatrix(kind, func(a [][]string) {
			if b := starOf(t, kind, a); !equal(b, star(kind, a)) {
				t.Fatalf("Star(%d, %q) = %q, not %q", kind, a, b, star(kind, a))
			}
		})
	}
}

// P7.1: what is no kind and no matrix is an error, also if it is too large.
func TestStarWrong(t *testing.T) {
	check := func(kind int, a [][]string) {
		t.Helper()
		if b, e := closure.Star(kind, a); b != nil || e != api.ErrArg {
			t.Errorf("Star(%d, %.100q) = %.100q, %v", kind, a, b, e)
		}
	}
	for _, kind := range otherKinds {
		check(kind, nil)
		check(kind, [][]string{})
		check(kind, [][]string{{"1"}})
		check(kind, [][]string{{""}})
		check(kind, filled(61, "1"))
	}
	for _, kind := range kinds {
		check(kind, [][]string{{"1", "2"}})
		check(kind, [][]string{nil})
		check(kind, [][]string{{"1"}, {"2"}})
		check(kind, [][]string{{"1", "2"}, {"3"}})
		check(kind, [][]string{{"1", "2"}, nil})
		check(kind, [][]string{{"1", "2"}, {"3", "4", "5"}})
		check(kind, [][]string{{"1", "2"}, {"3", "4"}, {"5", "6"}})
		check(kind, make([][]string, 61))
		check(kind, make([][]string, 100000))
		for _, v := range wrong(kind) {
			check(kind, [][]string{{v}})
			for i := range 4 {
				a := filled(2, "1")
				a[i/2][i%2] = v
				check(kind, a)
			}
			a := filled(61, "1")
			a[60][60] = v
			check(kind, a)
		}
	}
}

// P7.1: the limit of 60 rows.
func TestStarRows(t *testing.T) {
	for _, kind := range kinds {
		for _, n := range []int{59, 60} {
			if b := starOf(t, kind, filled(n, zero(kind))); !equal(b, unit(kind, n)) {
				t.Errorf("%d: Star of %d rows of Zero: %.300q", kind, n, b)
			}
		}
		for _, n := range []int{61, 62, 500} {
			for _, a := range [][][]string{filled(n, zero(kind)), unit(kind, n), filled(n, "1")} {
				if b, e := closure.Star(kind, a); b != nil || e != api.ErrLong {
					t.Errorf("%d: Star of %d rows: %.100q, %v", kind, n, b, e)
				}
			}
		}
	}
}

// P7.1: matrices of 60 rows whose sums are known.
func TestStarLarge(t *testing.T) {
	const n = api.MaxMatrix
	// The weights of so many steps.
	half, cost := []value{of("1")}, []value{of("0")}
	for i := range n {
		half = append(half, times(api.Viterbi, half[i], of("1/2")))
		cost = append(cost, times(api.Tropical, cost[i], of("3/2")))
	}
	rounds := starOfChances([][]value{{half[n]}})[0][0]
	tropical := starOf(t, api.Tropical, ring(api.Tropical, n, "3/2"))
	viterbi := starOf(t, api.Viterbi, ring(api.Viterbi, n, "1/2"))
	probability := starOf(t, api.Probability, ring(api.Probability, n, "1/2"))
	for i := range n {
		for j := range n {
			d := (j - i + n) % n
			if tropical[i][j] != cost[d].text() || viterbi[i][j] != half[d].text() {
				t.Fatalf("ring, %d, %d: %s, %s", i, j, tropical[i][j], viterbi[i][j])
			}
			if w := times(api.Probability, half[d], rounds).text(); probability[i][j] != w {
				t.Fatalf("ring, %d, %d: %s, not %s", i, j, probability[i][j], w)
			}
		}
	}
	// Where all elements are 1/120, each power is half of the one before.
	uniform := starOf(t, api.Probability, filled(n, "1/120"))
	endless := starOf(t, api.Probability, filled(n, "1/60"))
	for i := range n {
		for j := range n {
			want := "1/60"
			if i == j {
				want = "61/60"
			}
			if uniform[i][j] != want || endless[i][j] != "inf" {
				t.Fatalf("uniform, %d, %d: %s, %s", i, j, uniform[i][j], endless[i][j])
			}
		}
	}
}

// P7.1: the best walks of dense matrices of 60 rows.
func TestStarBest(t *testing.T) {
	r := rand.New(rand.NewPCG(7, 60))
	costs := filled(api.MaxMatrix, "inf")
	for i := range costs {
		for j := range costs {
			costs[i][j] = strconv.Itoa(r.IntN(1000))
		}
	}
	want := read(costs)
	for i := range want {
		want[i][i] = of("0")
	}
	for k := range want {
		for i := range want {
			for j := range want {
				want[i][j] = plus(api.Tropical, want[i][j], times(api.Tropical, want[i][k], want[k][j]))
			}
		}
	}
	if b := starOf(t, api.Tropical, costs); !equal(b, write(want)) {
		t.Error("the best walks are not found")
	}
	costs[59][59] = "-1"
	for _, row := range starOf(t, api.Tropical, costs) {
		for _, v := range row {
			if v != "-inf" {
				t.Fatalf("%s beside a negative loop", v)
			}
		}
	}
}

// P7.1: numbers that are too long, and those that are not.
func TestStarLong(t *testing.T) {
	most, least := samples.Nines(400), "1/"+samples.Nines(400)
	type matrix = [][]string
	for _, x := range []struct {
		kind int
		a, b matrix
	}{
		{api.Tropical, matrix{{"inf", most, "inf"}, {"inf", "inf", "1"}, {"inf", "inf", "inf"}}, nil},
		{api.Tropical, matrix{{"inf", "-" + most, "inf"}, {"inf", "inf", "-1"}, {"inf", "inf", "inf"}}, nil},
		{api.Probability, matrix{{"0", most, "0"}, {"0", "0", "2"}, {"0", "0", "0"}}, nil},
		{api.Probability, matrix{{"0", least, "0"}, {"0", "0", "1/2"}, {"0", "0", "0"}}, nil},
		{api.Probability, matrix{{"0", "1", most}, {"0", "0", "1"}, {"0", "0", "0"}}, nil},
		{api.Viterbi, matrix{{"0", most, "0"}, {"0", "0", "2"}, {"0", "0", "0"}}, nil},
		{api.Viterbi, matrix{{"0", least, "0"}, {"0", "0", "1/2"}, {"0", "0", "0"}}, nil},
		{api.Tropical, matrix{{"inf", most}, {"inf", "inf"}}, matrix{{"0", most}, {"inf", "0"}}},
		{api.Tropical, matrix{{"1/2", most}, {"inf", most}}, matrix{{"0", most}, {"inf", "0"}}},
		{api.Probability, matrix{{"0", most}, {"0", "0"}}, matrix{{"1", most}, {"0", "1"}}},
		{api.Probability, matrix{{"0", least}, {"0", "1"}}, matrix{{"1", "inf"}, {"0", "inf"}}},
		{api.Probability, matrix{{least}}, matrix{{samples.Nines(400) + "/" + samples.Nines(399) + "8"}}},
		{api.Viterbi, matrix{{"1/2", most}, {"0", "1/2"}}, matrix{{"1", most}, {"0", "1"}}},
		{api.Viterbi, matrix{{"2", most}, {"0", "1/2"}}, matrix{{"inf", "inf"}, {"0", "1"}}},
	} {
		b, e := closure.Star(x.kind, x.a)
		if x.b == nil {
			if b != nil || e != api.ErrLong {
				t.Errorf("Star(%d, %.600q) = %.100q, %v", x.kind, x.a, b, e)
			}
			continue
		}
		if e != api.OK || !equal(b, x.b) {
			t.Errorf("Star(%d, %.600q) = %.600q, %v", x.kind, x.a, b, e)
		}
	}
}

// P7.1: no number is too long where there are at most five rows and ten
// elements other than Zero, of four digits above and below the stroke.
func TestStarLittle(t *testing.T) {
	r := rand.New(rand.NewPCG(7, 10))
	for i := range 600 {
		kind := kinds[i%3]
		n := 1 + r.IntN(5)
		a := filled(n, zero(kind))
		for range 10 {
			a[r.IntN(n)][r.IntN(n)] = fraction(r, i%2 == 0)
		}
		if b := starOf(t, kind, a); !equal(b, star(kind, a)) {
			t.Fatalf("Star(%d, %q) = %q, not %q", kind, a, b, star(kind, a))
		}
	}
}

// fraction returns one of two parts of at most four digits, one below 1/6 or of
// any size.
func fraction(r *rand.Rand, below bool) string {
	num, den := 9000+r.Int64N(1000), 9000+r.Int64N(1000)
	if below {
		num = 1000 + r.Int64N(500)
	}
	return big.NewRat(num, den).RatString()
}

// P7.1: a matrix is not changed, also behind its ends, and the rows of a result
// share no memory with it or each other.
func TestStarMemory(t *testing.T) {
	for _, kind := range kinds {
		r := rand.New(rand.NewPCG(7, 4))
		for i := range 60 {
			a := random(r, kind, 1+i%5, 30)
			if i%3 == 0 {
				a = filled(1+i%5, "1/7")
			}
			b, c := twin(a), twin(a)
			want := starOf(t, kind, a)
			got := starOf(t, kind, b)
			if !reflect.DeepEqual(b[:cap(b)], c[:cap(c)]) || !reflect.DeepEqual(b[0][:cap(b[0])], c[0][:cap(c[0])]) {
				t.Fatalf("Star(%d) has changed %q", kind, c)
			}
			for k := range got {
				for j := range got[k][:cap(got[k])] {
					got[k][:cap(got[k])][j] = "changed"
				}
				if !equal(got[k+1:], want[k+1:]) || !equal(b, a) {
					t.Fatalf("rows of Star(%d, %q) share memory", kind, a)
				}
			}
			if !equal(starOf(t, kind, b), want) {
				t.Fatalf("Star(%d, %q) depends on what was done before", kind, a)
			}
		}
	}
}
