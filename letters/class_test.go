package letters_test

import (
	"strings"
	"testing"

	"abugida/letters"
)

// wantClass is the chapter's table of classes.
func wantClass(c int) int {
	in := func(lo, hi int) bool { return lo <= c && c <= hi }
	switch {
	case in(0x61, 0x7A), c == 0xB5, in(0xDF, 0xF6), in(0xF8, 0xFF):
		return 1
	case in(0x41, 0x5A), in(0xC0, 0xD6), in(0xD8, 0xDE):
		return 2
	case in(0x30, 0x39):
		return 3
	case in(9, 13), c == 0x20, c == 0xA0:
		return 4
	case in(0x21, 0x2F), in(0x3A, 0x40), in(0x5B, 0x60), in(0x7B, 0x7E):
		return 5
	}
	return 6
}

func wantLower(c int) int {
	if c >= 0x41 && c <= 0x5A || c >= 0xC0 && c <= 0xD6 || c >= 0xD8 && c <= 0xDE {
		return c + 32
	}
	return c
}

func wantUpper(c int) int {
	if c >= 0x61 && c <= 0x7A || c >= 0xE0 && c <= 0xF6 || c >= 0xF8 && c <= 0xFE {
		return c - 32
	}
	return c
}

// P1.3: the classes of all letters.
func TestClassAll(t *testing.T) {
	eachLetter(func(c int, letter string) {
		if class := letters.Class(letter); class != wantClass(c) {
			t.Errorf("Class(%q) = %d", letter, class)
		}
	})
}

// P1.3: the examples, and strings that are not one letter.
func TestClass(t *testing.T) {
	for s, want := range map[string]int{"\u00e9": 1, "\u00c9": 2, "\u00f7": 6, "\u00d7": 6, "5": 3, " ": 4, "%": 5, "\u20ac": 6, "\ufffd": 6, "\x00": 6, "ab": 0, "a ": 0, "": 0, "\xff": 0, "a\xff": 0, "\xc3": 0, "\xed\xa0\x80": 0, "\xc0\x80": 0} {
		if class := letters.Class(s); class != want {
			t.Errorf("Class(%q) = %d", s, class)
		}
	}
	for _, s := range singleBytes()[128:] {
		if class := letters.Class(s); class != 0 {
			t.Errorf("Class(%q) = %d", s, class)
		}
	}
}

// P1.4: both change exactly the letters of the promise.
func TestCaseAll(t *testing.T) {
	eachLetter(func(c int, letter string) {
		if s := letters.Lower(letter); s != form(wantLower(c)) {
			t.Errorf("Lower(%q) = %q", letter, s)
		}
		if s := letters.Upper(letter); s != form(wantUpper(c)) {
			t.Errorf("Upper(%q) = %q", letter, s)
		}
	})
}

// P1.4: each piece is changed, and stray bytes stay, also those that look like letters of Latin-1.
func TestCase(t *testing.T) {
	for _, x := range []struct{ s, lower, upper string }{
		{"", "", ""},
		{"\u00c0B\u00d7", "\u00e0b\u00d7", "\u00c0B\u00d7"},
		{"\u00df\u00ff\u00e9", "\u00df\u00ff\u00e9", "\u00df\u00ff\u00c9"},
		{"\u00b5\u00d6\u00d8\u00de\u00f6\u00f7\u00f8\u00fe", "\u00b5\u00f6\u00f8\u00fe\u00f6\u00f7\u00f8\u00fe", "\u00b5\u00d6\u00d8\u00de\u00d6\u00f7\u00d8\u00de"},
		{"@AZ[`az{", "@az[`az{", "@AZ[`AZ{"},
		{"\xc0A\xe0a\xff", "\xc0a\xe0a\xff", "\xc0A\xe0A\xff"},
		{"\xc3A\xa9", "\xc3a\xa9", "\xc3A\xa9"},
		{"\ufffdA\ufffda", "\ufffda\ufffda", "\ufffdA\ufffdA"},
		{"\u0100\u0101\u0391\u03b1\u0130\u0131\u212a", "\u0100\u0101\u0391\u03b1\u0130\u0131\u212a", "\u0100\u0101\u0391\u03b1\u0130\u0131\u212a"},
	} {
		if s := letters.Lower(x.s); s != x.lower {
			t.Errorf("Lower(%q) = %q", x.s, s)
		}
		if s := letters.Upper(x.s); s != x.upper {
			t.Errorf("Upper(%q) = %q", x.s, s)
		}
	}
}

// P1.4: the limit of texts does not apply.
func TestCaseLong(t *testing.T) {
	up, low := strings.Repeat("A\u00c9\xff", 20000), strings.Repeat("a\u00e9\xff", 20000)
	if letters.Lower(up) != low || letters.Upper(low) != up {
		t.Error("long strings are not changed")
	}
}

// checkCase checks what stays when the case of a string is changed.
func checkCase(t *testing.T, s string) {
	lower, upper := letters.Lower(s), letters.Upper(s)
	if letters.Lower(upper) != lower || letters.Upper(lower) != upper {
		t.Fatalf("%q: %q, %q", s, lower, upper)
	}
	before, _ := pieces(s)
	for _, changed := range []string{lower, upper} {
		after, _ := pieces(changed)
		if len(changed) != len(s) || len(after) != len(before) {
			t.Fatalf("%q: %q", s, changed)
		}
		for i := range before {
			was, is := letters.Class(before[i]), letters.Class(after[i])
			cased := was == 1 || was == 2
			if cased && is != 1 && is != 2 || !cased && is != was {
				t.Fatalf("%q: the classes %d, %d", s, was, is)
			}
		}
	}
}

// P1.10: the number of bytes and the other classes stay, and the last change decides.
func TestCaseKeeps(t *testing.T) {
	eachLetter(func(c int, letter string) { checkCase(t, letter) })
	for _, s := range samples() {
		checkCase(t, s)
	}
	eachString(singleBytes(), 2, func(s string) { checkCase(t, s) })
}
