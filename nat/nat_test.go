package nat_test

import (
	"math/big"
	"testing"

	"abugida/api"
	"abugida/nat"
)

// operation is one of the functions of two numbers with one result, and what it has to return.
type operation struct {
	name string
	call func(a, b string) (string, api.Errno)
	want func(x, y *big.Int) (*big.Int, api.Errno)
}

func operations() []operation {
	return []operation{
		{"Add", nat.Add, func(x, y *big.Int) (*big.Int, api.Errno) {
			return new(big.Int).Add(x, y), api.ErrLong
		}},
		{"Sub", nat.Sub, func(x, y *big.Int) (*big.Int, api.Errno) {
			return new(big.Int).Sub(x, y), api.ErrNone
		}},
		{"Mul", nat.Mul, func(x, y *big.Int) (*big.Int, api.Errno) {
			return new(big.Int).Mul(x, y), api.ErrLong
		}},
		{"Gcd", nat.Gcd, func(x, y *big.Int) (*big.Int, api.Errno) {
			return new(big.Int).GCD(nil, nil, x, y), api.OK
		}},
	}
}

// P2.2, P2.3: the results are right, and there is an error where there is no result.
func TestOperations(t *testing.T) {
	for _, o := range operations() {
		eachPair(func(a, b string) {
			n, none := o.want(of(t, a), of(t, b))
			want, e := n.String(), api.OK
			if n.Sign() < 0 || len(want) > 1000 {
				want, e = "", none
			}
			if c, err := o.call(a, b); c != want || err != e {
				t.Fatalf("%s(%s, %s) = %s, %v", o.name, a, b, c, err)
			}
		})
	}
}

// P2.2, P2.3: the examples, and the edges that the chapter names.
func TestExamples(t *testing.T) {
	l := operations()
	add, sub, mul, gcd := l[0], l[1], l[2], l[3]
	for _, x := range []struct {
		o    operation
		a, b string
		c    string
		e    api.Errno
	}{
		{add, "999", "1", "1000", api.OK},
		{add, "0", "0", "0", api.OK},
		{add, nines(999), "1", long(1000), api.OK},
		{add, nines(1000), "0", nines(1000), api.OK},
		{add, nines(1000)[:999] + "8", "1", nines(1000), api.OK},
		{add, nines(1000), "1", "", api.ErrLong},
		{add, "1", nines(1000), "", api.ErrLong},
		{add, nines(1000), nines(1000), "", api.ErrLong},
		{sub, "1000", "1", "999", api.OK},
		{sub, "1", "2", "", api.ErrNone},
		{sub, "0", "1", "", api.ErrNone},
		{sub, "0", "0", "0", api.OK},
		{sub, "1000000000", "1", "999999999", api.OK},
		{sub, long(1000), "1", nines(999), api.OK},
		{sub, nines(1000), nines(1000), "0", api.OK},
		{sub, nines(999), long(1000), "", api.ErrNone},
		{mul, "12345678901234567890", "98765432109876543210", "1219326311370217952237463801111263526900", api.OK},
		{mul, "0", nines(1000), "0", api.OK},
		{mul, nines(1000), "0", "0", api.OK},
		{mul, nines(1000), "1", nines(1000), api.OK},
		{mul, long(501), long(500), long(1000), api.OK},
		{mul, long(501), long(501), "", api.ErrLong},
		{mul, nines(500), nines(500), nines(499) + "8" + long(500)[1:] + "1", api.OK},
		{mul, nines(501), nines(500), "", api.ErrLong},
		{mul, nines(1000), "2", "", api.ErrLong},
		{mul, nines(1000), nines(1000), "", api.ErrLong},
		{gcd, "1071", "462", "21", api.OK},
		{gcd, "0", "5", "5", api.OK},
		{gcd, "5", "0", "5", api.OK},
		{gcd, "0", "0", "0", api.OK},
		{gcd, nines(1000), "0", nines(1000), api.OK},
		{gcd, nines(1000), nines(500), nines(500), api.OK},
		{gcd, long(1000), nines(1000), "1", api.OK},
	} {
		if c, e := x.o.call(x.a, x.b); c != x.c || e != x.e {
			t.Errorf("%s(%s, %s) = %s, %v", x.o.name, x.a, x.b, c, e)
		}
	}
}

// P2.2, P2.3: what is not a number is an error on both sides, before all other errors.
func TestOperationsWrong(t *testing.T) {
	for _, o := range operations() {
		for _, a := range wrong() {
			for _, b := range []string{"0", "5", nines(1000), a} {
				if c, e := o.call(a, b); c != "" || e != api.ErrArg {
					t.Errorf("%s(%.50q, %.50q) = %q, %v", o.name, a, b, c, e)
				}
				if c, e := o.call(b, a); c != "" || e != api.ErrArg {
					t.Errorf("%s(%.50q, %.50q) = %q, %v", o.name, b, a, c, e)
				}
			}
		}
	}
}

// P2.3: the examples, 0 on both sides, and numbers as long as possible.
func TestDiv(t *testing.T) {
	for _, x := range []struct {
		a, b string
		q, r string
		e    api.Errno
	}{
		{"1000000000000000000000", "7", "142857142857142857142", "6", api.OK},
		{"5", "0", "", "", api.ErrNone},
		{"0", "0", "", "", api.ErrNone},
		{nines(1000), "0", "", "", api.ErrNone},
		{"0", "5", "0", "0", api.OK},
		{"0", nines(1000), "0", "0", api.OK},
		{"5", "7", "0", "5", api.OK},
		{"7", "7", "1", "0", api.OK},
		{"8", "7", "1", "1", api.OK},
		{nines(1000), "1", nines(1000), "0", api.OK},
		{nines(1000), nines(1000), "1", "0", api.OK},
		{nines(999), long(1000), "0", nines(999), api.OK},
		{long(1000), nines(999), "1", "1", api.OK},
		{nines(1000), long(500), nines(501), nines(499), api.OK},
		{"1000000000000000000", "1000000000", "1000000000", "0", api.OK},
		{"999999999999999999", "1000000000", "999999999", "999999999", api.OK},
	} {
		if q, r, e := nat.Div(x.a, x.b); q != x.q || r != x.r || e != x.e {
			t.Errorf("Div(%s, %s) = %s, %s, %v", x.a, x.b, q, r, e)
		}
	}
}

// P2.3: a is q * b + r, and r is less than b.
func TestDivAll(t *testing.T) {
	eachPair(func(a, b string) { checkDiv(t, a, b) })
}

func checkDiv(t *testing.T, a, b string) {
	t.Helper()
	if b == "0" {
		if q, r, e := nat.Div(a, b); q != "" || r != "" || e != api.ErrNone {
			t.Fatalf("Div(%s, 0) = %s, %s, %v", a, q, r, e)
		}
		return
	}
	x, y := new(big.Int).QuoRem(of(t, a), of(t, b), new(big.Int))
	if q, r, e := nat.Div(a, b); q != x.String() || r != y.String() || e != api.OK {
		t.Fatalf("Div(%s, %s) = %s, %s, %v", a, b, q, r, e)
	}
}

// P2.3: numbers just below, at and above multiples, where the first blocks
// of two numbers alone do not tell how often the one goes into the other.
func TestDivMultiples(t *testing.T) {
	one := big.NewInt(1)
	divisors := []string{"1000000000999999999", "1000000000000000000999999999", "1000000000000000001000000000", "1000000000999999999999999999", "1000000001000000000999999999", "999999999999999999000000001", long(19) + nines(18), nines(9) + long(19)}
	for _, b := range append(divisors, samples()...) {
		for _, f := range []string{"1", "2", "999999998", "999999999", "1000000000", "999999998999999999", "999999999999999999", "1000000000000000000"} {
			n := new(big.Int).Mul(of(t, b), of(t, f))
			if n.Sign() == 0 || len(n.String()) > 990 {
				continue
			}
			checkDiv(t, new(big.Int).Sub(n, one).String(), b)
			checkDiv(t, n.String(), b)
			checkDiv(t, new(big.Int).Add(n, one).String(), b)
			checkDiv(t, new(big.Int).Add(n, new(big.Int).Sub(of(t, b), one)).String(), b)
		}
	}
}

// P2.3: what is not a number is an error on both sides, before the division by 0.
func TestDivWrong(t *testing.T) {
	for _, a := range wrong() {
		for _, b := range []string{"0", "5", nines(1000), a} {
			if q, r, e := nat.Div(a, b); q != "" || r != "" || e != api.ErrArg {
				t.Errorf("Div(%.50q, %.50q) = %q, %q, %v", a, b, q, r, e)
			}
			if q, r, e := nat.Div(b, a); q != "" || r != "" || e != api.ErrArg {
				t.Errorf("Div(%.50q, %.50q) = %q, %q, %v", b, a, q, r, e)
			}
		}
	}
}
