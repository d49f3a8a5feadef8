package build_test

import (
	"abugida/samples"
	"abugida/semi"
)

// unit gives the pair of empty words One, and all others Zero.
func unit(kind int) samples.Relation {
	r := samples.Zeros(kind)
	r[[2]string{}] = semi.One(kind)
	return r
}

// sum adds two relations.
func sum(kind int, a, b samples.Relation) samples.Relation {
	r := samples.Relation{}
	for words, w := range a {
		r[words] = plus(kind, w, b[words])
	}
	return r
}

// product concatenates two relations.
func product(kind int, a, b samples.Relation) samples.Relation {
	r := samples.Relation{}
	for words := range a {
		r[words] = semi.Zero(kind)
		eachSplit(words, func(first, second [2]string) {
			r[words] = plus(kind, r[words], times(kind, a[first], b[second]))
		})
	}
	return r
}

// powers adds the powers of a relation from n to most factors.
func powers(kind int, a samples.Relation, n, most int) samples.Relation {
	power := unit(kind)
	for range n {
		power = product(kind, a, power)
	}
	r := power
	for range most - n {
		power = product(kind, a, power)
		r = sum(kind, r, power)
	}
	return r
}

// allPowers adds all powers of a relation: a pair of words is a beginning, which
// is not empty, and a rest, behind any number of pairs of empty words.
func allPowers(kind int, a samples.Relation) samples.Relation {
	pauses, _ := semi.Star(kind, a[[2]string{}])
	known := samples.Relation{}
	var value func(words [2]string) string
	value = func(words [2]string) string {
		if words == [2]string{} {
			return pauses
		}
		if w, found := known[words]; found {
			return w
		}
		w := semi.Zero(kind)
		eachSplit(words, func(first, second [2]string) {
			if second != words {
				w = plus(kind, w, times(kind, a[first], value(second)))
			}
		})
		known[words] = times(kind, pauses, w)
		return known[words]
	}
	r := samples.Relation{}
	for words := range a {
		r[words] = value(words)
	}
	return r
}

// eachSplit visits all ways to divide two words into two parts each.
func eachSplit(words [2]string, visit func(first, second [2]string)) {
	x, y := words[0], words[1]
	for i := range len(x) + 1 {
		for j := range len(y) + 1 {
			visit([2]string{x[:i], y[:j]}, [2]string{x[i:], y[j:]})
		}
	}
}
