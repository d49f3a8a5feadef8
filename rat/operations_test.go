package rat_test

import (
	"math/big"
	"testing"

	"abugida/api"
	"abugida/rat"
)

// operation is one of the functions of two numbers with one result, and what it has to return.
type operation struct {
	name string
	call func(a, b string) (string, api.Errno)
	want func(x, y *big.Rat) *big.Rat
}

// operations are Add, Sub, Mul and Div, in this order.
func operations() []operation {
	return []operation{
		{"Add", rat.Add, func(x, y *big.Rat) *big.Rat { return new(big.Rat).Add(x, y) }},
		{"Sub", rat.Sub, func(x, y *big.Rat) *big.Rat { return new(big.Rat).Sub(x, y) }},
		{"Mul", rat.Mul, func(x, y *big.Rat) *big.Rat { return new(big.Rat).Mul(x, y) }},
		{"Div", rat.Div, func(x, y *big.Rat) *big.Rat { return new(big.Rat).Quo(x, y) }},
	}
}

// P3.5: the results are right, and there is an error where there is no result.
func TestOperations(t *testing.T) {
	for _, o := range operations() {
		eachPair(func(a, b string) {
			want, none := "", api.ErrNone
			if o.name != "Div" || b != "0" {
				want, none = written(o.want(of(t, a), of(t, b)))
			}
			if c, e := o.call(a, b); c != want || e != none {
				t.Fatalf("%s(%s, %s) = %q, %v", o.name, a, b, c, e)
			}
		})
	}
}

// P3.5: the examples, and the limit: only the number in lowest terms can be too long.
func TestExamples(t *testing.T) {
	l := operations()
	add, sub, mul, div := l[0], l[1], l[2], l[3]
	for _, x := range []struct {
		o    operation
		a, b string
		c    string
		e    api.Errno
	}{
		{add, "1/2", "1/3", "5/6", api.OK},
		{sub, "1/2", "1/2", "0", api.OK},
		{mul, "-2/3", "3/4", "-1/2", api.OK},
		{div, "1/2", "-1/4", "-2", api.OK},
		{div, "1", "0", "", api.ErrNone},
		{div, "0", "0", "", api.ErrNone},
		{div, nines(400), "0", "", api.ErrNone},
		{div, "0", "-5", "0", api.OK},
		{mul, "0", "-5", "0", api.OK},
		{mul, "-5", "0", "0", api.OK},
		{add, "-1/2", "1/2", "0", api.OK},
		{mul, long(400), "10", "", api.ErrLong},
		{mul, long(400), "1/10", long(399), api.OK},
		{mul, long(200), long(201), long(400), api.OK},
		{mul, long(201), long(201), "", api.ErrLong},
		{mul, "1/" + long(200), "-1/" + long(201), "-1/" + long(400), api.OK},
		{mul, "1/" + long(201), "1/" + long(201), "", api.ErrLong},
		{mul, nines(400) + "/" + long(400), long(400) + "/" + nines(400), "1", api.OK},
		{div, nines(400) + "/" + long(400), nines(400) + "/" + long(400), "1", api.OK},
		{div, "1", long(400), "1/" + long(400), api.OK},
		{div, "1/10", long(400), "", api.ErrLong},
		{div, long(400), "1/10", "", api.ErrLong},
		{div, "-1", "-1/" + nines(400), nines(400), api.OK},
		{add, nines(400), "1", "", api.ErrLong},
		{add, nines(399), "1", long(400), api.OK},
		{add, "-" + nines(400), "-1", "", api.ErrLong},
		{sub, "-" + nines(400), "1", "", api.ErrLong},
		{sub, nines(400), "-1", "", api.ErrLong},
		{sub, nines(400), nines(400), "0", api.OK},
		{add, "1/" + nines(400), "1/" + long(400), "", api.ErrLong},
		{add, "1/" + nines(400), "1", "", api.ErrLong},
		{sub, "1", "1/" + nines(400), nines(399) + "8/" + nines(400), api.OK},
		{sub, nines(400) + "/" + long(400), nines(400) + "/" + long(400), "0", api.OK},
		{sub, "1", nines(399) + "/" + long(400), "1/" + long(400), api.OK},
	} {
		if c, e := x.o.call(x.a, x.b); c != x.c || e != x.e {
			t.Errorf("%s(%s, %s) = %s, %v", x.o.name, x.a, x.b, c, e)
		}
	}
}

// P3.5: what is not a rational number is an error on both sides, before all other errors.
func TestOperationsWrong(t *testing.T) {
	for _, o := range operations() {
		for _, a := range wrong() {
			for _, b := range []string{"0", "5", "-1/2", nines(400), a} {
				if c, e := o.call(a, b); c != "" || e != api.ErrArg {
					t.Errorf("%s(%.50q, %.50q) = %q, %v", o.name, a, b, c, e)
				}
				if c, e := o.call(b, a); c != "" || e != api.ErrArg {
					t.Errorf("%s(%.50q, %.50q) = %q, %v", o.name, b, a, c, e)
				}
			}
		}
	}
}

// P3.4: the order is that of the numbers.
func TestCmp(t *testing.T) {
	for _, x := range []struct {
		a, b string
		c    int
	}{
		{"1/3", "2/6", 0},
		{"1/3", "1/2", -1},
		{"-1", "0", -1},
		{"0", "-1", 1},
		{"0", "0", 0},
		{"-1/3", "-1/2", 1},
		{"-1/2", "1/3", -1},
		{"9", "10", -1},
		{"-9", "-10", 1},
		{"1/9", "1/10", 1},
		{"-2/3", "-2/3", 0},
		{nines(399) + "/" + long(400), "1", -1},
		{long(400) + "/" + nines(399), "1", 1},
		{"1/" + nines(400), "1/" + long(400), -1},
		{nines(399) + "8/" + nines(400), nines(399) + "7/" + nines(399) + "8", 1},
		{"-" + nines(400), nines(400), -1},
	} {
		if c := rat.Cmp(x.a, x.b); c != x.c {
			t.Errorf("Cmp(%s, %s) = %d", x.a, x.b, c)
		}
	}
	eachPair(func(a, b string) {
		if c := rat.Cmp(a, b); c != of(t, a).Cmp(of(t, b)) {
			t.Fatalf("Cmp(%s, %s) = %d", a, b, c)
		}
	})
}

// P3.4: what is not a rational number is neither less nor greater.
func TestCmpWrong(t *testing.T) {
	for _, a := range wrong() {
		for _, b := range append(wrong(), "0", "-1", "1/2", nines(400)) {
			if rat.Cmp(a, b) != 0 || rat.Cmp(b, a) != 0 {
				t.Errorf("Cmp(%.50q, %.50q) = %d, %d", a, b, rat.Cmp(a, b), rat.Cmp(b, a))
			}
		}
	}
}

// P3.4: the number with the other sign; 0 has none.
func TestNeg(t *testing.T) {
	for a, b := range map[string]string{"0": "0", "2/3": "-2/3", "-2/3": "2/3", "-1": "1", "7": "-7", nines(400): "-" + nines(400), "-1/" + nines(400): "1/" + nines(400)} {
		if c, e := rat.Neg(a); c != b || e != api.OK {
			t.Errorf("Neg(%s) = %s, %v", a, c, e)
		}
	}
	for _, a := range samples() {
		if c, e := rat.Neg(a); c != new(big.Rat).Neg(of(t, a)).RatString() || e != api.OK {
			t.Errorf("Neg(%s) = %s, %v", a, c, e)
		}
	}
	for _, a := range wrong() {
		if c, e := rat.Neg(a); c != "" || e != api.ErrArg {
			t.Errorf("Neg(%.50q) = %.50q, %v", a, c, e)
		}
	}
}
