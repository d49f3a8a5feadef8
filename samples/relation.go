package samples

import (
	"abugida/api"
	"abugida/weigh"
)

// Relation has the values of some pairs of words, which are written with a byte
// for each symbol.
type Relation map[[2]string]string

// RelationOf returns the values that a machine gives the pairs of words of at
// most so many symbols from 1 to 2.
func RelationOf(m api.Machine, most int) (r Relation, e api.Errno) {
	r = Relation{}
	l := Words(most)
	for _, x := range l {
		for _, y := range l {
			w, e := weigh.Weight(m, x, y)
			if e != api.OK {
				return nil, e
			}
			r[[2]string{Text(x), Text(y)}] = w
		}
	}
	return r, api.OK
}

// Text writes a word as a relation has it.
func Text(x []int) string {
	l := make([]byte, len(x))
	for i, a := range x {
		l[i] = byte('0' + a)
	}
	return string(l)
}
