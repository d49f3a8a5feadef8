package closure_test

import (
	"math/big"
	"slices"

	"abugida/api"
)

// value is a value as a number, or as less (far -1) or greater (far 1) than all
// numbers.
type value struct {
	far int
	x   *big.Rat
}

func of(a string) value {
	switch a {
	case "inf":
		return value{far: 1}
	case "-inf":
		return value{far: -1}
	}
	x, ok := new(big.Rat).SetString(a)
	if !ok {
		panic("not a value: " + a)
	}
	return value{x: x}
}

func (v value) text() string {
	switch v.far {
	case 1:
		return "inf"
	case -1:
		return "-inf"
	}
	return v.x.RatString()
}

// less reports whether v is less than w.
func less(v, w value) bool {
	if v.far != 0 || w.far != 0 {
		return v.far < w.far
	}
	return v.x.Cmp(w.x) < 0
}

// better reports whether v is better than w.
func better(kind int, v, w value) bool {
	if kind == api.Tropical {
		return less(v, w)
	}
	return less(w, v)
}

// plus is the sum of chapter 4.
func plus(kind int, v, w value) value {
	switch {
	case isZero(kind, v):
		return w
	case isZero(kind, w):
		return v
	case kind == api.Probability && v.far+w.far > 0:
		return best(kind)
	case kind == api.Probability:
		return value{x: new(big.Rat).Add(v.x, w.x)}
	case better(kind, v, w):
		return v
	}
	return w
}

// isZero reports whether v is Zero.
func isZero(kind int, v value) bool {
	if kind == api.Tropical {
		return v.far == 1
	}
	return v.far == 0 && v.x.Sign() == 0
}

// best is the best value of a kind.
func best(kind int) value {
	if kind == api.Tropical {
		return value{far: -1}
	}
	return value{far: 1}
}

// times is the product of chapter 4.
func times(kind int, v, w value) value {
	switch {
	case isZero(kind, v):
		return v
	case isZero(kind, w):
		return w
	case v.far != 0 || w.far != 0:
		return best(kind)
	}
	if kind == api.Tropical {
		return value{x: new(big.Rat).Add(v.x, w.x)}
	}
	return value{x: new(big.Rat).Mul(v.x, w.x)}
}

func read(a [][]string) [][]value {
	b := make([][]value, len(a))
	for i, row := range a {
		for _, v := range row {
			b[i] = append(b[i], of(v))
		}
	}
	return b
}

func write(a [][]value) [][]string {
	b := make([][]string, len(a))
	for i, row := range a {
		for _, v := range row {
			b[i] = append(b[i], v.text())
		}
	}
	return b
}

func sumOf(kind int, a, b [][]value) [][]value {
	c := make([][]value, len(a))
	for i := range a {
		for j := range a[i] {
			c[i] = append(c[i], plus(kind, a[i][j], b[i][j]))
		}
	}
	return c
}

func productOf(kind int, a, b [][]value) [][]value {
	c := read(filled(len(a), zero(kind)))
	for i := range a {
		for j := range a {
			for k := range a {
				c[i][j] = plus(kind, c[i][j], times(kind, a[i][k], b[k][j]))
			}
		}
	}
	return c
}

// first returns the sum of the first powers of a matrix.
func first(kind int, a [][]value, powers int) [][]value {
	total, power := read(filled(len(a), zero(kind))), read(unit(kind, len(a)))
	for range powers {
		total, power = sumOf(kind, total, power), productOf(kind, power, a)
	}
	return total
}

// reaches returns which places of a matrix are reached from which by elements
// other than Zero; each place is reached from itself.
func reaches(kind int, a [][]value) [][]bool {
	r := make([][]bool, len(a))
	for i := range a {
		r[i] = make([]bool, len(a))
		for j := range a {
			r[i][j] = i == j || !isZero(kind, a[i][j])
		}
	}
	for k := range r {
		for i := range r {
			for j := range r {
				r[i][j] = r[i][j] || r[i][k] && r[k][j]
			}
		}
	}
	return r
}

// star is the sum of all powers of a matrix, without any elimination in the
// semiring.
func star(kind int, a [][]string) [][]string {
	if kind == api.Probability {
		return write(starOfChances(read(a)))
	}
	return write(starOfBest(kind, read(a)))
}

// starOfBest finds the best walk of each two places. The best one without a
// cycle has less steps than there are places; it is the best one, unless a cycle
// that is better than One can be gone through on the way.
func starOfBest(kind int, a [][]value) [][]value {
	n := len(a)
	b := first(kind, a, n)
	cycles := productOf(kind, a, b)
	r := reaches(kind, a)
	none := of(one(kind))
	for i := range n {
		for j := range n {
			for k := range n {
				if r[i][k] && r[k][j] && better(kind, cycles[k][k], none) {
					b[i][j] = best(kind)
				}
			}
		}
	}
	return b
}

// starOfChances computes each element with the places alone that are on a walk
// from i to j. If their sums are finite, they are the inverse of I - a.
func starOfChances(a [][]value) [][]value {
	r := reaches(api.Probability, a)
	b := read(filled(len(a), "0"))
	for i := range a {
		for j := range a {
			var between []int
			for k := range a {
				if r[i][k] && r[k][j] {
					between = append(between, k)
				}
			}
			if len(between) == 0 {
				continue
			}
			if diverges(a, r, between) {
				b[i][j] = best(api.Probability)
				continue
			}
			b[i][j] = value{x: inverse(a, between, slices.Index(between, i), slices.Index(between, j))}
		}
	}
	return b
}

// diverges reports whether the powers of a part of a matrix have an infinite
// sum: whether an element is inf, or a minor at the beginning of I - a is not
// positive in a set of places that reach each other.
func diverges(a [][]value, r [][]bool, places []int) bool {
	for _, i := range places {
		var set []int
		for _, j := range places {
			if a[i][j].far != 0 {
				return true
			}
			if r[i][j] && r[j][i] {
				set = append(set, j)
			}
		}
		for k := range set {
			if determinant(difference(a, set[:k+1])).Sign() <= 0 {
				return true
			}
		}
	}
	return false
}

// difference returns I - a, of some places. What stands there for inf does not
// matter: where there is one, the sums are infinite in any case.
func difference(a [][]value, places []int) [][]*big.Rat {
	d := make([][]*big.Rat, len(places))
	for i, p := range places {
		for j, q := range places {
			x := new(big.Rat)
			if i == j {
				x.SetInt64(1)
			}
			if a[p][q].far == 0 {
				x.Sub(x, a[p][q].x)
			}
			d[i] = append(d[i], x)
		}
	}
	return d
}

// determinant goes along the first row.
func determinant(d [][]*big.Rat) *big.Rat {
	if len(d) == 0 {
		return big.NewRat(1, 1)
	}
	total := new(big.Rat)
	for j, x := range d[0] {
		if x.Sign() == 0 {
			continue
		}
		x = new(big.Rat).Mul(x, determinant(minor(d, 0, j)))
		if j%2 == 1 {
			x.Neg(x)
		}
		total.Add(total, x)
	}
	return total
}

// minor leaves a row and a column out.
func minor(d [][]*big.Rat, row, column int) [][]*big.Rat {
	var m [][]*big.Rat
	for i := range d {
		if i != row {
			m = append(m, slices.Delete(slices.Clone(d[i]), column, column+1))
		}
	}
	return m
}

// inverse returns an element of the inverse of I - a, by Cramer's rule.
func inverse(a [][]value, places []int, i, j int) *big.Rat {
	d := difference(a, places)
	x := determinant(minor(d, j, i))
	if (i+j)%2 == 1 {
		x.Neg(x)
	}
	return x.Quo(x, determinant(d))
}
