package closure

import (
	"slices"

	"abugida/api"
	"abugida/semi"
)

// calculus computes in a kind of semiring. A number that is too long ends the
// computation by a panic.
type calculus struct {
	kind      int
	zero, one string
}

func of(kind int) calculus {
	return calculus{kind, semi.Zero(kind), semi.One(kind)}
}

// plus and times deal with the neutral values themselves, because most matrices
// have little else.
func (c calculus) plus(a, b string) string {
	switch {
	case a == c.zero:
		return b
	case b == c.zero:
		return a
	}
	return short(semi.Plus(c.kind, a, b))
}

func (c calculus) times(a, b string) string {
	switch {
	case a == c.zero || b == c.one:
		return a
	case b == c.zero || a == c.one:
		return b
	}
	return short(semi.Times(c.kind, a, b))
}

func (c calculus) star(a string) string {
	return short(semi.Star(c.kind, a))
}

func short(a string, e api.Errno) string {
	if e != api.OK {
		panic(e)
	}
	return a
}

func (c calculus) zeros(n int) []string {
	return slices.Repeat([]string{c.zero}, n)
}

// unit returns the matrix I.
func (c calculus) unit(n int) [][]string {
	a := make([][]string, n)
	for i := range a {
		a[i] = c.zeros(n)
		a[i][i] = c.one
	}
	return a
}

// sum returns a row plus those of a list, each times its factor.
func (c calculus) sum(row, factors []string, rows [][]string) []string {
	for i, value := range factors {
		if value != c.zero {
			row = combined(row, rows[i], factor{c, value}.addMultiple)
		}
	}
	return row
}

// factor is a value by which others are multiplied.
type factor struct {
	calculus
	value string
}

func (f factor) multiple(a string) string {
	return f.times(f.value, a)
}

func (f factor) addMultiple(a, b string) string {
	return f.plus(a, f.multiple(b))
}
