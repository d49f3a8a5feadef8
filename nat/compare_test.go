package nat_test

import (
	"math"
	"math/big"
	"strconv"
	"testing"

	"abugida/nat"
)

// P2.1: the examples, and the limit of 1000 digits.
func TestValid(t *testing.T) {
	for _, a := range []string{"0", "1", "9", "10", "100", "123456789", "1234567890", "18446744073709551616", long(1000), nines(1000), nines(999)} {
		if !nat.Valid(a) {
			t.Errorf("Valid(%q)", a)
		}
	}
	for _, a := range wrong() {
		if nat.Valid(a) {
			t.Errorf("Valid(%.50q), of %d bytes", a, len(a))
		}
	}
}

// P2.1: all strings of at most two bytes, and of three bytes at the edges of the digits.
func TestValidAll(t *testing.T) {
	want := map[string]bool{}
	for n := range 1000 {
		want[strconv.Itoa(n)] = true
	}
	check := func(a string) {
		if nat.Valid(a) != want[a] {
			t.Errorf("Valid(%q) = %t", a, !want[a])
		}
	}
	for c := range 256 {
		check(string([]byte{byte(c)}))
		for d := range 256 {
			check(string([]byte{byte(c), byte(d)}))
		}
		for _, d := range "/0159:" {
			for _, f := range "/0159:" {
				check(string([]byte{byte(c), byte(d), byte(f)}))
			}
		}
	}
}

// P2.1: Small writes all numbers of 64 bits.
func TestSmall(t *testing.T) {
	if a := nat.Small(math.MaxUint64); a != "18446744073709551615" {
		t.Errorf("Small of the greatest number: %q", a)
	}
	check := func(n uint64) {
		if a := nat.Small(n); a != new(big.Int).SetUint64(n).String() || !nat.Valid(a) {
			t.Errorf("Small(%d) = %q", n, a)
		}
	}
	for n := range uint64(10000) {
		check(n)
		check(math.MaxUint64 - n)
	}
	for n := uint64(1); n < math.MaxUint64/10; n *= 10 {
		check(n - 1)
		check(n)
		check(n + 1)
	}
	for i := range 64 {
		check(1 << i)
		check(1<<i - 1)
	}
}

// P2.1: the order is that of the numbers, not that of the texts.
func TestCmp(t *testing.T) {
	for _, x := range []struct {
		a, b string
		c    int
	}{
		{"9", "10", -1},
		{"10", "9", 1},
		{"10", "10", 0},
		{"0", "0", 0},
		{"0", "1", -1},
		{"123456789", "123456790", -1},
		{"999999999", "1000000000", -1},
		{"2000000001", "1999999999", 1},
		{nines(1000), nines(999), 1},
		{nines(999), long(1000), -1},
		{long(1000), long(999) + "1", -1},
		{nines(1000), nines(1000), 0},
	} {
		if c := nat.Cmp(x.a, x.b); c != x.c {
			t.Errorf("Cmp(%s, %s) = %d", x.a, x.b, c)
		}
	}
	eachPair(func(a, b string) {
		if c := nat.Cmp(a, b); c != of(t, a).Cmp(of(t, b)) {
			t.Fatalf("Cmp(%s, %s) = %d", a, b, c)
		}
	})
}

// P2.1: what is not a number is neither less nor greater.
func TestCmpWrong(t *testing.T) {
	for _, a := range wrong() {
		for _, b := range []string{"0", "5", nines(30), nines(1000)} {
			if nat.Cmp(a, b) != 0 || nat.Cmp(b, a) != 0 {
				t.Errorf("Cmp(%.50q, %.50q) = %d, %d", a, b, nat.Cmp(a, b), nat.Cmp(b, a))
			}
		}
		for _, b := range wrong() {
			if c := nat.Cmp(a, b); c != 0 {
				t.Errorf("Cmp(%.50q, %.50q) = %d", a, b, c)
			}
		}
	}
}
