package symbols_test

import (
	"slices"
	"strings"

	"abugida/api"
)

// divided is what Tokens returns for a table, by the definition: at each place
// all names are tried.
func divided(t []string, text string) (x []int, at int, e api.Errno) {
	if len(text) > api.MaxText {
		return nil, 0, api.ErrLong
	}
	for at < len(text) {
		best := 0
		for i, name := range t {
			if strings.HasPrefix(text[at:], name) && (best == 0 || len(name) > len(t[best-1])) {
				best = i + 1
			}
		}
		if best == 0 {
			return nil, at, api.ErrForm
		}
		x = append(x, best)
		at += len(t[best-1])
	}
	if len(x) > api.MaxWord {
		return nil, 0, api.ErrLong
	}
	return x, 0, api.OK
}

// eachString visits all strings of at most most of the parts.
func eachString(parts []string, most int, visit func(s string)) {
	visit("")
	if most > 0 {
		for _, p := range parts {
			eachString(parts, most-1, func(s string) {
				visit(p + s)
			})
		}
	}
}

// eachTable visits all tables of at most most of the names, in each order.
func eachTable(names []string, most int, visit func(t []string)) {
	visit(nil)
	if most > 0 {
		for _, name := range names {
			eachTable(names, most-1, func(t []string) {
				if !slices.Contains(t, name) {
					visit(append([]string{name}, t...))
				}
			})
		}
	}
}

// namesOf returns all strings of one to most of the parts.
func namesOf(parts []string, most int) []string {
	var l []string
	eachString(parts, most, func(s string) {
		if s != "" {
			l = append(l, s)
		}
	})
	return l
}

// eachWord visits all words of at most most of the symbols from 1 to n.
func eachWord(n, most int, visit func(x []int)) {
	visit(nil)
	if most > 0 {
		for s := range n {
			eachWord(n, most-1, func(x []int) {
				visit(append([]int{s + 1}, x...))
			})
		}
	}
}
