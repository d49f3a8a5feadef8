package symbols_test

import (
	"strconv"
	"strings"
)

// numbered returns a table of so many names, each with this beginning.
func numbered(beginning string, n int) []string {
	var t []string
	for i := range n {
		t = append(t, beginning+strconv.Itoa(i))
	}
	return t
}

// example is the table of the chapter's examples.
func example() []string {
	return []string{"a", "ab", "b", "+Pl", "\u00e9"}
}

// tables are lists that are tables.
func tables() map[string][]string {
	return map[string][]string{
		"nil":                             nil,
		"no names":                        {},
		"the example":                     example(),
		"one letter":                      {"a"},
		"500 names":                       numbered("+Tag", 500),
		"40 bytes":                        {strings.Repeat("a", 40)},
		"40 bytes in letters of two":      {strings.Repeat("\u00e9", 20)},
		"40 bytes in letters of four":     {strings.Repeat("\U0001f600", 10)},
		"40 bytes in letters of all four": {strings.Repeat("a\u00e9\u20ac\U0001f600", 4)},
		"two names of 40 bytes":           {strings.Repeat("a", 39) + "b", strings.Repeat("a", 39) + "c"},
		"the case":                        {"a", "A"},
		"two forms of an accent":          {"\u00e9", "e\u0301", "e", "\u0301"},
		"names with a syntax":             {"%0", "0", " ", "@P.Case.Nom@", "a b", "\n", "\x00", "\x7f", "\"", "%"},
		"U+FFFD":                          {"\ufffd", "a\ufffdb"},
		"the edges of the forms":          {"\x00", "\x7f", "\u0080", "\u07ff", "\u0800", "\ud7ff", "\ue000", "\uffff", "\U00010000", "\U0010ffff"},
	}
}

// wrongNames are strings that are not names.
func wrongNames() map[string]string {
	return map[string]string{
		"the empty name":              "",
		"41 bytes":                    strings.Repeat("a", 41),
		"41 bytes in letters of two":  strings.Repeat("\u00e9", 20) + "a",
		"42 bytes in 14 letters":      strings.Repeat("\u20ac", 14),
		"44 bytes in 11 letters":      strings.Repeat("\U0001f600", 11),
		"a million bytes":             strings.Repeat("a", 1<<20),
		"a stray byte":                "\xff",
		"a stray byte at the end":     "ab\x80",
		"a stray byte in between":     "a\xc3b",
		"half a letter":               "\xc3",
		"two thirds of a letter":      "a\xe2\x82",
		"a surrogate":                 "\xed\xa0\x80",
		"a longer form than needed":   "\xc0\x80",
		"a code point beyond the end": "\xf4\x90\x80\x80",
		"40 letters and a stray byte": strings.Repeat("a", 40) + "\xff",
	}
}

// wrongTables are lists that are not tables.
func wrongTables() map[string][]string {
	l := map[string][]string{
		"a name twice":              {"a", "a"},
		"a name twice, far apart":   append(numbered("+Tag", 499), "+Tag0"),
		"the last name twice":       {"a", "b", "c", "d", "d"},
		"the example, one twice":    append(example(), "+Pl"),
		"501 names":                 numbered("+Tag", 501),
		"501 times the same name":   strings.Split(strings.Repeat("a", 501), ""),
		"a hundred thousand names":  numbered("+Tag", 100000),
		"501 names, one not a name": append(numbered("+Tag", 500), ""),
		"halves of a letter":        {"\xc3", "\xa9"},
	}
	for why, name := range wrongNames() {
		l[why] = []string{name}
		l[why+", first"] = append([]string{name}, example()...)
		l[why+", last"] = append(example(), name)
	}
	return l
}
