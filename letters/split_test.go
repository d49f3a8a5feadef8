package letters_test

import (
	"slices"
	"strings"
	"testing"

	"abugida/api"
	"abugida/letters"
)

// P1.1: the examples, the edges of the forms, and texts that are wrong.
func TestSplit(t *testing.T) {
	for _, x := range []struct {
		text string
		l    []string
		at   int
		e    api.Errno
	}{
		{"", nil, 0, api.OK},
		{"a\u00e9b", []string{"a", "\u00e9", "b"}, 0, api.OK},
		{"a\u00e9\u20ac", []string{"a", "\u00e9", "\u20ac"}, 0, api.OK},
		{"\x00\x7f\u0080\u07ff\u0800\uffff\U00010000\U0010ffff", []string{"\x00", "\x7f", "\u0080", "\u07ff", "\u0800", "\uffff", "\U00010000", "\U0010ffff"}, 0, api.OK},
		{"\ufffd\ufeff", []string{"\ufffd", "\ufeff"}, 0, api.OK},
		{"e\u0301", []string{"e", "\u0301"}, 0, api.OK},
		{"\ufffd\xff", nil, 3, api.ErrForm},
		{"a\xc3b", nil, 1, api.ErrForm},
		{"\xed\xa0\x80", nil, 0, api.ErrForm},
		{"\xc0\x80", nil, 0, api.ErrForm},
		{"a\xe2\x82", nil, 1, api.ErrForm},
		{"\u00e9\u20aca\x80b\xff", nil, 6, api.ErrForm},
		{"ab\xe0\x9f\xbf", nil, 2, api.ErrForm},
		{"a\xf0\x8f\xbf\xbf", nil, 1, api.ErrForm},
		{"\xf4\x90\x80\x80", nil, 0, api.ErrForm},
		{"\xf8\x88\x80\x80\x80", nil, 0, api.ErrForm},
	} {
		l, at, e := letters.Split(x.text)
		if !slices.Equal(l, x.l) || at != x.at || e != x.e {
			t.Errorf("Split(%q): %q, %d, %v", x.text, l, at, e)
		}
	}
}

// P1.1: a text is as long as its bytes, and its length comes before its form.
func TestSplitLong(t *testing.T) {
	for _, x := range []struct {
		text string
		n    int
		at   int
		e    api.Errno
	}{
		{strings.Repeat("a", api.MaxText), api.MaxText, 0, api.OK},
		{strings.Repeat("\u00e9", api.MaxText/2), api.MaxText / 2, 0, api.OK},
		{strings.Repeat("a", api.MaxText-1) + "\xff", 0, api.MaxText - 1, api.ErrForm},
		{strings.Repeat("a", api.MaxText+1), 0, 0, api.ErrLong},
		{strings.Repeat("\u00e9", api.MaxText/2) + "a", 0, 0, api.ErrLong},
		{"a\xff" + strings.Repeat("a", api.MaxText), 0, 0, api.ErrLong},
	} {
		l, at, e := letters.Split(x.text)
		if len(l) != x.n || at != x.at || e != x.e {
			t.Errorf("%d bytes: %d letters, %d, %v", len(x.text), len(l), at, e)
		}
	}
}

// checkPieces compares Split and Valid with the definition of pieces.
func checkPieces(t *testing.T, s string) {
	want, wrong := pieces(s)
	l, at, e := letters.Split(s)
	if wrong >= 0 && (e != api.ErrForm || at != wrong || len(l) != 0) || wrong < 0 && (e != api.OK || at != 0 || !slices.Equal(l, want)) {
		t.Fatalf("Split(%q): %q, %d, %v", s, l, at, e)
	}
	if ok := letters.Valid(s); ok != (wrong < 0 && len(want) == 1) {
		t.Fatalf("Valid(%q) = %v", s, ok)
	}
}

// P1.1: all code points, all strings of two bytes, and four bytes at the edges of the forms.
func TestPieces(t *testing.T) {
	eachLetter(func(c int, letter string) {
		checkPieces(t, letter)
		if !letters.Valid(letter) {
			t.Fatalf("Valid(%q)", letter)
		}
	})
	eachString(singleBytes(), 2, func(s string) { checkPieces(t, s) })
	eachString(tellingBytes(), 4, func(s string) { checkPieces(t, s) })
}

// P1.1: one letter, no more and no less.
func TestValid(t *testing.T) {
	for s, want := range map[string]bool{"a": true, "\x00": true, "\u00ff": true, "\ufffd": true, "\U0010ffff": true, "": false, "ab": false, "\u00e9a": false, "e\u0301": false, "\xff": false, "\xc3": false, "\xc3a": false, "a\xff": false, "\xed\xa0\x80": false, "\xc0\x80": false} {
		if ok := letters.Valid(s); ok != want {
			t.Errorf("Valid(%q) = %v", s, ok)
		}
	}
	if letters.Valid(strings.Repeat("a", 2*api.MaxText)) {
		t.Error("Valid of a long string")
	}
}

// P1.2: letters are concatenated; other strings come before the length.
func TestJoin(t *testing.T) {
	full := strings.Split(strings.Repeat("a", api.MaxText), "")
	half := slices.Repeat([]string{"\u00e9"}, api.MaxText/2)
	for _, x := range []struct {
		name string
		l    []string
		text string
		e    api.Errno
	}{
		{"nil", nil, "", api.OK},
		{"no letters", []string{}, "", api.OK},
		{"four sizes", []string{"a", "\u00e9", "\u20ac", "\U0001f600"}, "a\u00e9\u20ac\U0001f600", api.OK},
		{"U+FFFD", []string{"\ufffd"}, "\ufffd", api.OK},
		{"two letters in one", []string{"a", "bc"}, "", api.ErrArg},
		{"an empty string", []string{"a", "", "b"}, "", api.ErrArg},
		{"a stray byte", []string{"a", "\xff"}, "", api.ErrArg},
		{"the halves of a letter", []string{"\xc3", "\xa9"}, "", api.ErrArg},
		{"as long as possible", full, strings.Repeat("a", api.MaxText), api.OK},
		{"as long as possible in letters of two bytes", half, strings.Repeat("\u00e9", api.MaxText/2), api.OK},
		{"too long", append(slices.Clone(full), "a"), "", api.ErrLong},
		{"too long in letters of two bytes", append(slices.Clone(half), "a"), "", api.ErrLong},
		{"too long and wrong", append(slices.Clone(full), "a", "bc"), "", api.ErrArg},
	} {
		if text, e := letters.Join(x.l); text != x.text || e != x.e {
			t.Errorf("%s: %d bytes, %v", x.name, len(text), e)
		}
	}
}

// P1.2 with R4: neither the list nor its spare capacity is changed.
func TestJoinKeepsArgument(t *testing.T) {
	all := []string{"a", "b", "c", "d"}
	letters.Join(all[:2])
	if !slices.Equal(all, []string{"a", "b", "c", "d"}) {
		t.Errorf("%q", all)
	}
}

// P1.8: Split and Join are inverse to each other.
func TestSplitJoin(t *testing.T) {
	for _, s := range samples() {
		l, _, e := letters.Split(s)
		if e != api.OK {
			continue
		}
		text, e := letters.Join(l)
		if e != api.OK || text != s {
			t.Fatalf("Join(Split(%q)): %q, %v", s, text, e)
		}
		again, at, e := letters.Split(text)
		if e != api.OK || at != 0 || !slices.Equal(again, l) {
			t.Fatalf("Split(Join(%q)): %q, %d, %v", l, again, at, e)
		}
	}
}
