package symbols

import (
	"abugida/api"
	"abugida/letters"
)

// table is what names are looked up in.
type table struct {
	symbols map[string]int // the symbols of the names
	longest int            // the bytes of the longest name
}

// read prepares a table for looking names up. What it returns for a list that
// is not a table has no names.
func read(t []string) (names table, ok bool) {
	if len(t) > api.MaxSymbols {
		return table{}, false
	}
	names.symbols = make(map[string]int, len(t))
	for i, name := range t {
		if !isName(name) || names.symbols[name] != 0 {
			return table{}, false
		}
		names.symbols[name] = i + 1
		names.longest = max(names.longest, len(name))
	}
	return names, true
}

func isName(name string) bool {
	if name == "" || len(name) > api.MaxName {
		return false
	}
	_, _, e := letters.Split(name)
	return e == api.OK
}

// divide returns the symbols of a text, and the place where no name stands, or
// the text's length. Words that are too long are divided too: a failure behind
// them is still to be found.
func (names table) divide(text string) (x []int, at int) {
	for at < len(text) {
		s, size := names.first(text[at:])
		if s == 0 {
			break
		}
		x = append(x, s)
		at += size
	}
	return x, at
}

// first returns the symbol with the longest name that stands at the beginning
// of a text, and the bytes of this name; zeros if there is none.
func (names table) first(text string) (s, size int) {
	most := min(names.longest, len(text))
	for shorter := range most {
		size = most - shorter
		if s, ok := names.symbols[text[:size]]; ok {
			return s, size
		}
	}
	return 0, 0
}
