package closure

import (
	"slices"
	"strings"

	"abugida/semi"
)

// isMatrix reports whether a is a matrix of a kind of semiring.
func isMatrix(kind int, a [][]string) bool {
	for _, row := range a {
		if len(row) != len(a) {
			return false
		}
	}
	// A matrix has few different values, but a long one takes long to check.
	valid := map[string]bool{}
	for _, row := range a {
		for _, v := range row {
			if !valid[v] && !semi.Valid(kind, v) {
				return false
			}
			valid[v] = true
		}
	}
	return semi.Valid(kind, semi.One(kind))
}

// distinct returns the different rows of a matrix, and the number of each row
// among them.
func distinct(a [][]string) (rows [][]string, class []int) {
	numbers := map[string]int{}
	for _, row := range a {
		text := strings.Join(row, " ")
		number, found := numbers[text]
		if !found {
			number = len(rows)
			numbers[text] = number
			rows = append(rows, row)
		}
		class = append(class, number)
	}
	return rows, class
}

func joined(x, y []string) []string {
	return slices.Concat(x, y)
}

func transposed(a [][]string) [][]string {
	t := make([][]string, len(a))
	for i := range a {
		t[i] = mapped(a, func(row []string) string { return row[i] })
	}
	return t
}

// mapped returns what f makes of the elements of a list.
func mapped[S, T any](l []S, f func(a S) T) []T {
	r := make([]T, len(l))
	for i, a := range l {
		r[i] = f(a)
	}
	return r
}

// combined returns what f makes of the elements of two lists, place by place.
func combined[S, T, U any](x []S, y []T, f func(a S, b T) U) []U {
	r := make([]U, len(x))
	for i, a := range x {
		r[i] = f(a, y[i])
	}
	return r
}
