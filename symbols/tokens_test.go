package symbols_test

import (
	"slices"
	"strings"
	"testing"

	"abugida/api"
	"abugida/symbols"
)

// P5.4: the longest name at each place is taken, and not given back.
func TestTokens(t *testing.T) {
	for _, x := range []struct {
		t    []string
		text string
		x    []int
		at   int
		e    api.Errno
	}{
		{[]string{"a", "ab", "+Pl"}, "aab+Pl", []int{1, 2, 3}, 0, api.OK},
		{example(), "abab+Pl\u00e9", []int{2, 2, 4, 5}, 0, api.OK},
		{example(), "", nil, 0, api.OK},
		{example(), "ba", []int{3, 1}, 0, api.OK},
		{example(), "abc", nil, 2, api.ErrForm},
		{example(), "a+P", nil, 1, api.ErrForm},
		{example(), "c", nil, 0, api.ErrForm},
		{example(), "A", nil, 0, api.ErrForm},
		{example(), "a b", nil, 1, api.ErrForm},
		{example(), "\u00e9a\u00e9c\u00e9", nil, 5, api.ErrForm},
		{example(), "+Ple\u0301", nil, 3, api.ErrForm},
		{example(), "\u00e9\xc3", nil, 2, api.ErrForm},
		{example(), "a\xc3b", nil, 1, api.ErrForm},
		{example(), "\xa9", nil, 0, api.ErrForm},
		{nil, "", nil, 0, api.OK},
		{nil, "a", nil, 0, api.ErrForm},
		{[]string{"ab", "abcd", "abc"}, "abcdabcab", []int{2, 3, 1}, 0, api.OK},
		{[]string{"a", "ab", "bc"}, "abc", nil, 2, api.ErrForm},
		{[]string{"a", "aab", "b"}, "aaab", []int{1, 2}, 0, api.OK},
		{[]string{"a", "aaa"}, "aaaaa", []int{2, 1, 1}, 0, api.OK},
		{[]string{"\u00e9", "\u00e9\u00e9", "e"}, "\u00e9\u00e9\u00e9e", []int{2, 1, 3}, 0, api.OK},
		{[]string{" ", "\n", "%"}, "% \n", []int{3, 1, 2}, 0, api.OK},
	} {
		s, at, e := symbols.Tokens(x.t, x.text)
		if !slices.Equal(s, x.x) || at != x.at || e != x.e {
			t.Errorf("Tokens(%q, %q): %d, %d, %v", x.t, x.text, s, at, e)
		}
	}
}

// P5.4: how long texts and words may be, and what comes first if there are
// several errors.
func TestTokensLong(t *testing.T) {
	many := func(s string, n int) string {
		return strings.Repeat(s, n)
	}
	longest := many("\u00e9", 20)
	for _, x := range []struct {
		what string
		t    []string
		text string
		n    int
		at   int
		e    api.Errno
	}{
		{"200 symbols", example(), many("a", 200), 200, 0, api.OK},
		{"201 symbols", example(), many("a", 201), 0, 0, api.ErrLong},
		{"200 symbols of two letters", example(), many("ab", 200), 200, 0, api.OK},
		{"201 symbols of two letters", example(), many("ab", 201), 0, 0, api.ErrLong},
		{"200 of the longest names", []string{longest}, many(longest, 200), 200, 0, api.OK},
		{"201 of the longest names", []string{longest}, many(longest, 201), 0, 0, api.ErrLong},
		{"a failure behind 200 symbols", example(), many("a", 200) + "c", 0, 200, api.ErrForm},
		{"a failure behind 201 symbols", example(), many("a", 201) + "c", 0, 201, api.ErrForm},
		{"a failure behind many symbols of two bytes", example(), many("\u00e9", 3000) + "c", 0, 6000, api.ErrForm},
		{"the longest text", example(), many("a", api.MaxText), 0, 0, api.ErrLong},
		{"the longest text with a failure at the end", example(), many("a", api.MaxText-1) + "c", 0, api.MaxText - 1, api.ErrForm},
		{"the longest text with a failure first", example(), many("c", api.MaxText), 0, 0, api.ErrForm},
		{"a longer text", example(), many("a", api.MaxText+1), 0, 0, api.ErrLong},
		{"a longer text with a failure", example(), "ac" + many("a", api.MaxText), 0, 0, api.ErrLong},
		{"a longer text in letters of two bytes", example(), many("\u00e9", api.MaxText/2) + "c", 0, 0, api.ErrLong},
		{"a longer text without names", nil, many("a", api.MaxText+1), 0, 0, api.ErrLong},
		{"a much longer text", example(), many("a", 1<<20), 0, 0, api.ErrLong},
		{"the last of 500 names", numbered("+Tag", 500), "+Tag499+Tag49", 2, 0, api.OK},
	} {
		s, at, e := symbols.Tokens(x.t, x.text)
		if len(s) != x.n || at != x.at || e != x.e {
			t.Errorf("%s: %d symbols, %d, %v", x.what, len(s), at, e)
		}
	}
}

// P5.4: a list that is not a table comes before all other errors.
func TestTokensWrong(t *testing.T) {
	for what, table := range wrongTables() {
		for _, text := range []string{"", "a", "zz", strings.Repeat("a", 201), strings.Repeat("a", api.MaxText+1)} {
			if x, at, e := symbols.Tokens(table, text); len(x) != 0 || at != 0 || e != api.ErrArg {
				t.Errorf("%s: a text of %d bytes: %d, %d, %v", what, len(text), x, at, e)
			}
		}
	}
}

// P5.4 and P5.6: all short texts, divided by all small tables.
func TestTokensAll(t *testing.T) {
	for _, c := range []struct {
		parts              []string
		name, names, texts int
	}{
		{[]string{"a", "b"}, 3, 3, 6},
		{[]string{"a"}, 5, 3, 12},
		{[]string{"a", "b", "c"}, 2, 2, 4},
		{[]string{"e", "\u00e9", "\u20ac", "\u00e8"}, 2, 2, 3},
	} {
		eachTable(namesOf(c.parts, c.name), c.names, func(table []string) {
			eachString(c.parts, c.texts, func(text string) {
				checkTokens(t, table, text)
			})
		})
	}
	bytes := []string{"\u00e9", "\xc3", "\xa9", "a"}
	eachTable([]string{"\u00e9", "\u00e9a", "a", "\ufffd"}, 4, func(table []string) {
		eachString(bytes, 4, func(text string) {
			checkTokens(t, table, text)
		})
	})
}

// checkTokens compares Tokens with the definition, and puts the text together
// again.
func checkTokens(t *testing.T, table []string, text string) {
	want, place, failure := divided(table, text)
	x, at, e := symbols.Tokens(table, text)
	if !slices.Equal(x, want) || at != place || e != failure {
		t.Fatalf("Tokens(%q, %q): %d, %d, %v, not %d, %d, %v", table, text, x, at, e, want, place, failure)
	}
	if e != api.OK {
		return
	}
	if again, e := symbols.Text(table, x); again != text || e != api.OK {
		t.Fatalf("Text(%q, %d): %q, %v, not %q", table, x, again, e, text)
	}
}
