package closure

import (
	"slices"

	"abugida/exact"
)

// calculus computes with rows and matrices of a kind of semiring.
type calculus struct {
	exact.Semiring
}

func of(kind int) calculus {
	return calculus{exact.Of(kind)}
}

func (c calculus) zeros(n int) []string {
	return slices.Repeat([]string{c.Zero}, n)
}

// unit returns the matrix I.
func (c calculus) unit(n int) [][]string {
	a := make([][]string, n)
	for i := range a {
		a[i] = c.zeros(n)
		a[i][i] = c.One
	}
	return a
}

// sum returns a row plus those of a list, each times its factor.
func (c calculus) sum(row, factors []string, rows [][]string) []string {
	for i, value := range factors {
		if value != c.Zero {
			row = combined(row, rows[i], factor{c, value}.addMultiple)
		}
	}
	return row
}

// factor is a value by which others are multiplied.
type factor struct {
	calculus
	value string
}

func (f factor) multiple(a string) string {
	return f.Times(f.value, a)
}

func (f factor) addMultiple(a, b string) string {
	return f.Plus(a, f.multiple(b))
}
