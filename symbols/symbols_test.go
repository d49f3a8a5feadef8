package symbols_test

import (
	"math"
	"slices"
	"strings"
	"testing"

	"abugida/api"
	"abugida/symbols"
)

// P5.1: names are letters, not too long, not too many, and all different.
func TestValid(t *testing.T) {
	for what, table := range tables() {
		if !symbols.Valid(table) {
			t.Errorf("%s: not valid", what)
		}
	}
	for what, table := range wrongTables() {
		if symbols.Valid(table) {
			t.Errorf("%s: valid", what)
		}
	}
}

// P5.1: all strings of at most four of some bytes are names, if they are not
// empty and consist of letters.
func TestValidNames(t *testing.T) {
	bytes := strings.Split("a,\x7f,\x80,\xa0,\xbf,\xc1,\xc3,\xe0,\xed,\xf4,\xff", ",")
	eachString(bytes, 4, func(s string) {
		if ok := symbols.Valid([]string{s}); ok != (s != "" && strings.ToValidUTF8(s, "") == s) {
			t.Fatalf("Valid(%q) = %v", s, ok)
		}
	})
}

// P5.1: Find and Name return what stands in the table.
func TestFindName(t *testing.T) {
	for what, table := range tables() {
		for i, name := range table {
			if s, ok := symbols.Find(table, name); s != i+1 || !ok {
				t.Errorf("%s: Find(%q) = %d, %v", what, name, s, ok)
			}
			if n, ok := symbols.Name(table, i+1); n != name || !ok {
				t.Errorf("%s: Name(%d) = %q, %v", what, i+1, n, ok)
			}
		}
	}
}

// P5.1: what has no symbol, or is none.
func TestFindNameNone(t *testing.T) {
	for what, table := range tables() {
		for _, name := range []string{"", "c", "abc", "+P", "+Plu", "Pl", "+Tag", "+Tag500", "\xc3", "\xff", strings.Repeat("a", 1<<16)} {
			if s, ok := symbols.Find(table, name); s != 0 || ok {
				t.Errorf("%s: Find(%q) = %d, %v", what, name, s, ok)
			}
		}
		for _, s := range []int{0, -1, -2, len(table) + 1, len(table) + 2, 501, 1 << 32, math.MaxInt, math.MinInt} {
			if name, ok := symbols.Name(table, s); name != "" || ok {
				t.Errorf("%s: Name(%d) = %q, %v", what, s, name, ok)
			}
		}
	}
}

// P5.1: nothing has a symbol, or is one, in a list that is not a table.
func TestFindNameWrong(t *testing.T) {
	for what, table := range wrongTables() {
		for _, i := range []int{0, 1, len(table) / 2, len(table) - 1} {
			if i >= len(table) {
				continue
			}
			if s, ok := symbols.Find(table, table[i]); s != 0 || ok {
				t.Errorf("%s: Find(%q) = %d, %v", what, table[i], s, ok)
			}
			if name, ok := symbols.Name(table, i+1); name != "" || ok {
				t.Errorf("%s: Name(%d) = %q, %v", what, i+1, name, ok)
			}
		}
	}
}

// P5.2: new names, those that are there, and full tables.
func TestAdd(t *testing.T) {
	full := numbered("+Tag", 500)
	longest := strings.Repeat("\u20ac", 13) + "a"
	for _, x := range []struct {
		what string
		t    []string
		name string
		n    []string
		s    int
		e    api.Errno
	}{
		{"an old name", example(), "b", example(), 3, api.OK},
		{"the first name", example(), "a", example(), 1, api.OK},
		{"the last name", example(), "\u00e9", example(), 5, api.OK},
		{"a new name", example(), "c", append(example(), "c"), 6, api.OK},
		{"a beginning of a name", example(), "+P", append(example(), "+P"), 6, api.OK},
		{"another case", example(), "A", append(example(), "A"), 6, api.OK},
		{"the longest name", example(), longest, append(example(), longest), 6, api.OK},
		{"no names yet", nil, "a", []string{"a"}, 1, api.OK},
		{"the last place", full[:499], "a", append(slices.Clone(full[:499]), "a"), 500, api.OK},
		{"an old name in a full table", full, "+Tag499", full, 500, api.OK},
		{"a new name in a full table", full, "a", nil, 0, api.ErrLong},
		{"no name in a full table", full, "", nil, 0, api.ErrArg},
	} {
		n, s, e := symbols.Add(x.t, x.name)
		if !slices.Equal(n, x.n) || s != x.s || e != x.e {
			t.Errorf("%s: %d names, %d, %v", x.what, len(n), s, e)
		}
	}
}

// P5.2: strings that are not names, and lists that are not tables.
func TestAddWrong(t *testing.T) {
	for what, name := range wrongNames() {
		if n, s, e := symbols.Add(example(), name); len(n) != 0 || s != 0 || e != api.ErrArg {
			t.Errorf("%s: %q, %d, %v", what, n, s, e)
		}
	}
	for what, table := range wrongTables() {
		for _, name := range []string{"a", "new", "", table[0]} {
			if n, s, e := symbols.Add(table, name); len(n) != 0 || s != 0 || e != api.ErrArg {
				t.Errorf("%s: %q: %d names, %d, %v", what, name, len(n), s, e)
			}
		}
	}
}

// P5.3: the names of the first table, then the new ones.
func TestMerge(t *testing.T) {
	full := numbered("+Tag", 500)
	upTo := func(n int) (l []int) {
		for i := range n {
			l = append(l, i+1)
		}
		return l
	}
	for _, x := range []struct {
		what    string
		a, b, n []string
		to      []int
		e       api.Errno
	}{
		{"the example", example(), []string{"c", "a"}, append(example(), "c"), []int{6, 1}, api.OK},
		{"no names", nil, nil, nil, nil, api.OK},
		{"no old names", nil, example(), example(), upTo(5), api.OK},
		{"no new names", example(), nil, example(), nil, api.OK},
		{"the same names", example(), []string{"\u00e9", "+Pl", "b", "ab", "a"}, example(), []int{5, 4, 3, 2, 1}, api.OK},
		{"old and new names in turn", []string{"a", "b", "c"}, []string{"z", "c", "y", "a", "x"}, []string{"a", "b", "c", "z", "y", "x"}, []int{4, 3, 5, 1, 6}, api.OK},
		{"parts of names", []string{"ab"}, []string{"a", "b", "abc"}, []string{"ab", "a", "b", "abc"}, []int{2, 3, 4}, api.OK},
		{"a full table with itself", full, full, full, upTo(500), api.OK},
		{"a full table with a part", full, full[490:492], full, []int{491, 492}, api.OK},
		{"two halves", full[:250], full[250:], full, upTo(500)[250:], api.OK},
		{"two halves and more than that", full[:250], full[200:], full, upTo(500)[200:], api.OK},
		{"one name too many", full[:250], append(slices.Clone(full[250:]), "a"), nil, nil, api.ErrLong},
		{"one name more than a full table", full, []string{"a"}, nil, nil, api.ErrLong},
		{"a full table more than one name", []string{"a"}, full, nil, nil, api.ErrLong},
		{"twice as many", full, numbered("x", 500), nil, nil, api.ErrLong},
	} {
		n, to, e := symbols.Merge(x.a, x.b)
		if !slices.Equal(n, x.n) || !slices.Equal(to, x.to) || e != x.e {
			t.Errorf("%s: %q, %d, %v", x.what, n, to, e)
		}
	}
}

// P5.3: a list that is not a table, on each side, comes before the length.
func TestMergeWrong(t *testing.T) {
	for what, table := range wrongTables() {
		for _, other := range [][]string{nil, example(), numbered("x", 500), table} {
			for _, x := range [][2][]string{{table, other}, {other, table}} {
				if n, to, e := symbols.Merge(x[0], x[1]); len(n) != 0 || len(to) != 0 || e != api.ErrArg {
					t.Errorf("%s: %d names, %d, %v", what, len(n), to, e)
				}
			}
		}
	}
}

// P5.5: the names of the symbols, one after the other.
func TestText(t *testing.T) {
	long := []string{strings.Repeat("a", 40), strings.Repeat("\u00e9", 20)}
	for _, x := range []struct {
		what string
		t    []string
		x    []int
		text string
		e    api.Errno
	}{
		{"the example", example(), []int{1, 3}, "ab", api.OK},
		{"all symbols", example(), []int{5, 4, 3, 2, 1}, "\u00e9+Plbaba", api.OK},
		{"a symbol again", example(), []int{4, 4, 4}, "+Pl+Pl+Pl", api.OK},
		{"no symbols", example(), nil, "", api.OK},
		{"no symbols and no names", nil, []int{}, "", api.OK},
		{"the longest text", long, slices.Repeat([]int{1, 2}, 100), strings.Repeat(long[0]+long[1], 100), api.OK},
		{"the last of 500", numbered("+Tag", 500), []int{500, 1}, "+Tag499+Tag0", api.OK},
		{"200 symbols", []string{"a"}, slices.Repeat([]int{1}, 200), strings.Repeat("a", 200), api.OK},
		{"201 symbols", []string{"a"}, slices.Repeat([]int{1}, 201), "", api.ErrArg},
		{"a million symbols", []string{"a"}, slices.Repeat([]int{1}, 1<<20), "", api.ErrArg},
		{"beyond the table", example(), []int{6}, "", api.ErrArg},
		{"beyond the table at the end", example(), []int{1, 2, 6}, "", api.ErrArg},
		{"beyond all tables", numbered("+Tag", 500), []int{501}, "", api.ErrArg},
		{"0", example(), []int{1, 0, 2}, "", api.ErrArg},
		{"0 at the end", example(), []int{1, 0}, "", api.ErrArg},
		{"less than 0", example(), []int{-1}, "", api.ErrArg},
		{"the least number", example(), []int{math.MinInt}, "", api.ErrArg},
		{"the greatest number", example(), []int{math.MaxInt}, "", api.ErrArg},
		{"a symbol without names", nil, []int{1}, "", api.ErrArg},
	} {
		if text, e := symbols.Text(x.t, x.x); text != x.text || e != x.e {
			t.Errorf("%s: %q, %v", x.what, text, e)
		}
	}
	for what, table := range wrongTables() {
		for _, x := range [][]int{nil, {1}, {2}, {501}} {
			if text, e := symbols.Text(table, x); text != "" || e != api.ErrArg {
				t.Errorf("%s: %d: %q, %v", what, x, text, e)
			}
		}
	}
}
