package samples

import "slices"

// Words returns all words of at most so many symbols from 1 to 2, in the order of
// words.
func Words(most int) [][]int {
	l := [][]int{nil}
	for i := 0; len(l[i]) < most; i++ {
		for a := 1; a <= 2; a++ {
			l = append(l, append(slices.Clone(l[i]), a))
		}
	}
	return l
}

// NotWords are lists that are not words.
func NotWords() [][]int {
	return [][]int{{0}, {-1}, {501}, {1, 2, 0}, {1, 501, 1}, {1 << 40}, {-1 << 63}, slices.Repeat([]int{1}, 201), slices.Repeat([]int{0}, 1000), make([]int, 1<<20)}
}
