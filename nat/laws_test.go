package nat_test

import (
	"testing"

	"abugida/api"
	"abugida/nat"
)

// P2.4: Sub takes back what Add added, Div what Mul multiplied.
func TestBack(t *testing.T) {
	eachPair(func(a, b string) {
		if c, e := nat.Add(a, b); e == api.OK {
			if d, e := nat.Sub(c, b); d != a || e != api.OK {
				t.Fatalf("%s + %s - %s = %s, %v", a, b, b, d, e)
			}
		}
		if c, e := nat.Mul(a, b); e == api.OK && b != "0" {
			if q, r, e := nat.Div(c, b); q != a || r != "0" || e != api.OK {
				t.Fatalf("%s * %s / %s = %s, %s, %v", a, b, b, q, r, e)
			}
		}
	})
}

// P2.5: the order of two numbers does not matter to Add, Mul and Gcd.
func TestExchange(t *testing.T) {
	for _, o := range operations() {
		if o.name == "Sub" {
			continue
		}
		check := func(a, b string) {
			c, e := o.call(a, b)
			if d, f := o.call(b, a); c != d || e != f {
				t.Fatalf("%s(%.50q, %.50q) = %s, %v, but %s, %v", o.name, a, b, c, e, d, f)
			}
		}
		eachPair(check)
		for _, a := range wrong() {
			check(a, "5")
			check(a, "-1")
		}
	}
}

// P2.5: the product of a sum is the sum of the products.
func TestDistribute(t *testing.T) {
	s := &series{3}
	eachPair(func(a, b string) {
		c := s.number(1 + s.below(1+max(0, 998-max(len(a), len(b)))))
		checkDistribute(t, a, b, c)
		checkDistribute(t, a, c, b)
		checkDistribute(t, a, b, "0")
	})
}

func checkDistribute(t *testing.T, a, b, c string) {
	t.Helper()
	sum, e1 := nat.Add(a, b)
	all, e2 := nat.Mul(sum, c)
	x, e3 := nat.Mul(a, c)
	y, e4 := nat.Mul(b, c)
	both, e5 := nat.Add(x, y)
	for _, e := range []api.Errno{e1, e2, e3, e4, e5} {
		if e != api.OK {
			return
		}
	}
	if all != both {
		t.Fatalf("(%s + %s) * %s = %s, but %s", a, b, c, all, both)
	}
}

// P2.6: the greatest common divisor leaves no remainder, and what it leaves
// has no common divisor; the remainder has the same one as the number.
func TestDivisors(t *testing.T) {
	eachPair(func(a, b string) { checkDivisor(t, a, b) })
	s := &series{4}
	for range 1000 {
		f := s.number(1 + s.below(60))
		a, _ := nat.Mul(f, s.number(1+s.below(60)))
		b, _ := nat.Mul(f, s.number(1+s.below(60)))
		checkDivisor(t, a, b)
		checkDivisor(t, a, f)
		if c, e := nat.Gcd(a, f); c != f || e != api.OK {
			t.Fatalf("Gcd(%s, %s) = %s, %v", a, f, c, e)
		}
	}
}

func checkDivisor(t *testing.T, a, b string) {
	t.Helper()
	c, e := nat.Gcd(a, b)
	if e != api.OK || (c == "0") != (a == "0" && b == "0") {
		t.Fatalf("Gcd(%s, %s) = %s, %v", a, b, c, e)
	}
	if c == "0" {
		return
	}
	x, r, e1 := nat.Div(a, c)
	y, s, e2 := nat.Div(b, c)
	if r != "0" || s != "0" || e1 != api.OK || e2 != api.OK {
		t.Fatalf("Gcd(%s, %s) = %s leaves %s, %v and %s, %v", a, b, c, r, e1, s, e2)
	}
	if d, e := nat.Gcd(x, y); d != "1" || e != api.OK {
		t.Fatalf("%s and %s have the common divisor %s, %v", x, y, d, e)
	}
	if b == "0" {
		return
	}
	_, rest, _ := nat.Div(a, b)
	if d, e := nat.Gcd(b, rest); d != c || e != api.OK {
		t.Fatalf("Gcd(%s, %s) = %s, %v, not %s", b, rest, d, e, c)
	}
}
