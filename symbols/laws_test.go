package symbols_test

import (
	"slices"
	"strings"
	"testing"

	"abugida/api"
	"abugida/symbols"
)

// distinct reports whether no name of a table is a beginning of another one.
func distinct(t []string) bool {
	for i, a := range t {
		for j, b := range t {
			if i != j && strings.HasPrefix(b, a) {
				return false
			}
		}
	}
	return true
}

// checkWord takes the text of a word apart, by a table without names that are
// beginnings of others.
func checkWord(t *testing.T, table []string, x []int) {
	text, e := symbols.Text(table, x)
	if e != api.OK {
		t.Fatalf("Text(%q, %d): %v", table, x, e)
	}
	again, at, e := symbols.Tokens(table, text)
	if !slices.Equal(again, x) || at != 0 || e != api.OK {
		t.Fatalf("Tokens(%q, %q): %d, %d, %v, not %d", table, text, again, at, e, x)
	}
}

// P5.6: the text of a word gives the word again.
func TestWordsAgain(t *testing.T) {
	count := 0
	eachTable(namesOf([]string{"a", "b"}, 3), 3, func(table []string) {
		if distinct(table) {
			count++
			eachWord(len(table), 4, func(x []int) { checkWord(t, table, x) })
		}
	})
	if count < 100 {
		t.Errorf("%d tables", count)
	}
	long := []string{strings.Repeat("a", 39) + "b", strings.Repeat("a", 39) + "c", strings.Repeat("\u00e9", 20)}
	checkWord(t, long, slices.Repeat([]int{1, 2, 3, 3}, 50))
	checkWord(t, example()[1:], slices.Repeat([]int{4, 3, 2, 1}, 50))
}

// P5.6: the words that Tokens returns give the text again, those of the
// greatest length too.
func TestTextsAgain(t *testing.T) {
	tags := numbered("+Tag", 500)
	for i := range 301 {
		checkTokens(t, tags, strings.Join(tags[i:i+200], ""))
	}
	for what, table := range tables() {
		text := strings.Join(table, "")
		x, _, e := symbols.Tokens(table, text)
		if len(table) > 200 {
			if e != api.ErrLong {
				t.Errorf("%s: %v", what, e)
			}
			continue
		}
		if again, f := symbols.Text(table, x); again != text || e != api.OK || f != api.OK {
			t.Errorf("%s: %q, %v, %v, not %q", what, again, e, f, text)
		}
	}
}

// P5.7: a name has the symbol that has the name.
func TestFindNameAgain(t *testing.T) {
	checkSymbols := func(table []string) {
		for s := -1; s <= len(table)+1; s++ {
			name, ok := symbols.Name(table, s)
			if !ok {
				continue
			}
			if again, ok := symbols.Find(table, name); again != s || !ok {
				t.Fatalf("Find(%q, Name(%d)) = %d, %v", table, s, again, ok)
			}
		}
	}
	checkNames := func(table []string) {
		for _, name := range append([]string{"", "a", "b", "aa", "ab", "c"}, table...) {
			s, ok := symbols.Find(table, name)
			if ok != slices.Contains(table, name) {
				t.Fatalf("Find(%q, %q) = %d, %v", table, name, s, ok)
			}
			if again, found := symbols.Name(table, s); ok && again != name || found != ok {
				t.Fatalf("Name(%q, Find(%q)) = %q, %v", table, name, again, found)
			}
		}
	}
	for _, table := range tables() {
		checkSymbols(table)
		checkNames(table)
	}
	eachTable(namesOf([]string{"a", "b"}, 2), 4, func(table []string) {
		checkSymbols(table)
		checkNames(table)
	})
}

// P5.8: a table with itself is itself, and its symbols are the same.
func TestMergeItself(t *testing.T) {
	for what, table := range tables() {
		n, to, e := symbols.Merge(table, table)
		if !slices.Equal(n, table) || len(to) != len(table) || e != api.OK {
			t.Errorf("%s: %q, %d, %v", what, n, to, e)
		}
		for i, s := range to {
			if s != i+1 {
				t.Errorf("%s: to[%d] is %d", what, i, s)
			}
		}
	}
}

// P5.3 and P5.8: two tables are one, in which all names have a symbol, those of
// the first one their own.
func TestMergeAll(t *testing.T) {
	var all [][]string
	eachTable([]string{"a", "b", "ab", "\u00e9"}, 3, func(table []string) { all = append(all, table) })
	for _, table := range tables() {
		all = append(all, table)
	}
	for _, a := range all {
		for _, b := range all {
			checkMerge(t, a, b)
		}
	}
}

func checkMerge(t *testing.T, a, b []string) {
	want := slices.Clone(a)
	for _, name := range b {
		if !slices.Contains(a, name) {
			want = append(want, name)
		}
	}
	n, to, e := symbols.Merge(a, b)
	if len(want) > api.MaxSymbols {
		if len(n) != 0 || len(to) != 0 || e != api.ErrLong {
			t.Fatalf("Merge(%q, %q): %d names, %d, %v", a, b, len(n), to, e)
		}
		return
	}
	if !slices.Equal(n, want) || !symbols.Valid(n) || len(to) != len(b) || e != api.OK {
		t.Fatalf("Merge(%q, %q): %q, %d, %v", a, b, n, to, e)
	}
	for i, s := range to {
		if name, ok := symbols.Name(n, s); name != b[i] || !ok {
			t.Fatalf("Merge(%q, %q): to[%d] is %d, %q", a, b, i, s, name)
		}
	}
}

// P5.2: adding name after name makes the table, with the symbols in their order.
func TestAddAll(t *testing.T) {
	for what, table := range tables() {
		var n []string
		for i, name := range table {
			var s int
			var e api.Errno
			if n, s, e = symbols.Add(n, name); s != i+1 || e != api.OK {
				t.Fatalf("%s: Add of %q: %d, %v", what, name, s, e)
			}
		}
		if !slices.Equal(n, table) {
			t.Errorf("%s: %q", what, n)
		}
	}
}

// R4 for P5.2 and P5.3: the arguments keep their names, also those behind their
// end, and the results have a memory of their own.
func TestTablesKept(t *testing.T) {
	all := []string{"a", "b", "c", "d"}
	kept := slices.Clone(all)
	for _, name := range []string{"a", "b", "x"} {
		n, _, e := symbols.Add(all[:2], name)
		if e != api.OK || !slices.Equal(all, kept) {
			t.Fatalf("Add of %q: %v, and then %q", name, e, all)
		}
		n[0] = "changed"
		if !slices.Equal(all, kept) {
			t.Fatalf("Add of %q shares its memory: %q", name, all)
		}
	}
	other := []string{"x", "b", "y"}
	for _, b := range [][]string{nil, other[:0], other, all[:2]} {
		n, _, e := symbols.Merge(all[:2], b)
		if e != api.OK || !slices.Equal(all, kept) || !slices.Equal(other, []string{"x", "b", "y"}) {
			t.Fatalf("Merge with %q: %v, and then %q, %q", b, e, all, other)
		}
		n[0] = "changed"
		if !slices.Equal(all, kept) {
			t.Fatalf("Merge with %q shares its memory: %q", b, all)
		}
	}
}

// R4 for P5.4 and P5.5: dividing and putting together changes no argument.
func TestWordsKept(t *testing.T) {
	table := append(example(), "x", "y")
	symbols.Tokens(table[:5], "ab\u00e9")
	symbols.Tokens(table[:5], "abc")
	x := []int{1, 2, 3}
	symbols.Text(table[:5], x[:2])
	if !slices.Equal(table, append(example(), "x", "y")) || !slices.Equal(x, []int{1, 2, 3}) {
		t.Errorf("%q, %d", table, x)
	}
}
