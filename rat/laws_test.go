package rat_test

import (
	"testing"

	"abugida/api"
	"abugida/rat"
)

// P3.6: the order of two numbers does not matter to Add and Mul.
func TestExchange(t *testing.T) {
	eachPair(func(a, b string) {
		checkExchange(t, "Add", rat.Add, a, b)
		checkExchange(t, "Mul", rat.Mul, a, b)
	})
}

func checkExchange(t *testing.T, name string, call func(a, b string) (string, api.Errno), a, b string) {
	t.Helper()
	c, e := call(a, b)
	if d, f := call(b, a); c != d || e != f {
		t.Fatalf("%s(%s, %s) = %s, %v, but %s, %v", name, a, b, c, e, d, f)
	}
}

// P3.6: Sub takes back what Add added, Div what Mul multiplied.
func TestBack(t *testing.T) {
	eachPair(func(a, b string) {
		if c, e := rat.Add(a, b); e == api.OK {
			if d, e := rat.Sub(c, b); d != a || e != api.OK {
				t.Fatalf("%s + %s - %s = %s, %v", a, b, b, d, e)
			}
		}
		if c, e := rat.Mul(a, b); e == api.OK && b != "0" {
			if d, e := rat.Div(c, b); d != a || e != api.OK {
				t.Fatalf("%s * %s / %s = %s, %v", a, b, b, d, e)
			}
		}
	})
}

// P3.6: the product of a sum is the sum of the products.
func TestDistribute(t *testing.T) {
	s := newSeries(5)
	compared := 0
	eachPair(func(a, b string) {
		c := s.number(1 + s.IntN(30))
		left, e1 := rat.Add(a, b)
		left, e2 := rat.Mul(left, c)
		x, e3 := rat.Mul(a, c)
		y, e4 := rat.Mul(b, c)
		right, e5 := rat.Add(x, y)
		for _, e := range []api.Errno{e1, e2, e3, e4, e5} {
			if e != api.OK {
				return
			}
		}
		compared++
		if left != right {
			t.Fatalf("(%s + %s) * %s = %s, but %s", a, b, c, left, right)
		}
	})
	if compared < 10000 {
		t.Errorf("only %d sums were short enough", compared)
	}
}

// P3.7: the order is the sign of the difference.
func TestSign(t *testing.T) {
	eachPair(func(a, b string) {
		d, e := rat.Sub(a, b)
		if e != api.OK {
			return
		}
		negative, num, _, ok := rat.Parts(d)
		sign := 1
		if num == "0" {
			sign = 0
		} else if negative {
			sign = -1
		}
		if c := rat.Cmp(a, b); c != sign || !ok {
			t.Fatalf("Cmp(%s, %s) = %d, but %s", a, b, c, d)
		}
	})
}

// P3.7: the order is total.
func TestOrder(t *testing.T) {
	l := samples()
	for _, a := range l {
		for _, b := range l {
			c := rat.Cmp(a, b)
			if rat.Cmp(b, a) != -c || (c == 0) != (a == b) {
				t.Fatalf("Cmp(%s, %s) = %d, and %d", a, b, c, rat.Cmp(b, a))
			}
			for i := 0; i < len(l) && c <= 0; i += 3 {
				if rat.Cmp(b, l[i]) <= 0 && rat.Cmp(a, l[i]) > 0 {
					t.Fatalf("%s, %s and %s are in no order", a, b, l[i])
				}
			}
		}
	}
}

// P3.8: Make puts together what Parts took apart.
func TestBackFromParts(t *testing.T) {
	check := func(a string) {
		negative, num, den, ok := rat.Parts(a)
		if b, e := rat.Make(negative, num, den); b != a || e != api.OK || !ok {
			t.Fatalf("Make(%t, %s, %s) = %s, %v, not %s", negative, num, den, b, e, a)
		}
	}
	eachPair(func(a, b string) {
		check(a)
		check(b)
	})
}
