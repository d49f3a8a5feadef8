package letters_test

import (
	"strings"
	"testing"

	"abugida/letters"
)

// wantCompare compares two strings byte by byte.
func wantCompare(a, b string) int {
	for i := 0; i < len(a) && i < len(b); i++ {
		if a[i] < b[i] {
			return -1
		}
		if a[i] > b[i] {
			return 1
		}
	}
	switch {
	case len(a) < len(b):
		return -1
	case len(a) > len(b):
		return 1
	}
	return 0
}

// P1.7: the examples, bytes that are greater than 127, and beginnings.
func TestCompare(t *testing.T) {
	for _, x := range []struct {
		a, b string
		want int
	}{
		{"", "", 0},
		{"a", "ab", -1},
		{"ab", "a", 1},
		{"\u00e9", "z", 1},
		{"z", "\u00e9", -1},
		{"", "\x00", -1},
		{"a", "a\x00", -1},
		{"Z", "a", -1},
		{"b", "aaa", 1},
		{"\uffff", "\U00010000", -1},
		{"\x7f", "\x80", -1},
		{"\xff", "\U0010ffff", 1},
		{"a\xff", "b", -1},
		{"e\u0301", "\u00e9", -1},
	} {
		if c := letters.Compare(x.a, x.b); c != x.want {
			t.Errorf("Compare(%q, %q) = %d", x.a, x.b, c)
		}
	}
	long := strings.Repeat("a", 50000)
	if letters.Compare(long+"a", long+"b") != -1 || letters.Compare(long+"b", long) != 1 || letters.Compare(long, long) != 0 {
		t.Error("long strings")
	}
}

// P1.7: the order of texts of letters is that of their code points.
func TestCompareLetters(t *testing.T) {
	last := ""
	eachLetter(func(c int, letter string) {
		if letters.Compare(last, letter) != -1 || letters.Compare(letter, last) != 1 {
			t.Fatalf("%q, %q", last, letter)
		}
		last = letter
	})
}

// P1.11: antisymmetric, transitive, and 0 for equal strings only.
func TestCompareOrder(t *testing.T) {
	var l []string
	eachString([]string{"\x00", "a", "b", "\u00e9", "\xc3", "\xff"}, 2, func(s string) { l = append(l, s) })
	for _, a := range l {
		for _, b := range l {
			c := letters.Compare(a, b)
			if c != wantCompare(a, b) || c != -letters.Compare(b, a) || (c == 0) != (a == b) {
				t.Fatalf("Compare(%q, %q) = %d", a, b, c)
			}
			for _, d := range l {
				if c <= 0 && letters.Compare(b, d) <= 0 && letters.Compare(a, d) > 0 {
					t.Fatalf("%q, %q, %q", a, b, d)
				}
			}
		}
	}
}
