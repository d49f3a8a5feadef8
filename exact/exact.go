// Package exact computes in a semiring for the layers whose results take many
// steps: a step whose result is too long leaves the computation by a panic,
// which Attempt turns into an error.
package exact

import (
	"abugida/api"
	"abugida/semi"
)

// Semiring is a kind of semiring. Its operations take values of the kind.
type Semiring struct {
	kind      int
	Zero, One string
}

// Of returns a kind of semiring.
func Of(kind int) Semiring {
	return Semiring{kind, semi.Zero(kind), semi.One(kind)}
}

// Plus and Times deal with the neutral values themselves, because most sums and
// products have little else.
func (s Semiring) Plus(a, b string) string {
	switch {
	case a == s.Zero:
		return b
	case b == s.Zero:
		return a
	}
	return Must(semi.Plus(s.kind, a, b))
}

func (s Semiring) Times(a, b string) string {
	switch {
	case a == s.Zero || b == s.One:
		return a
	case b == s.Zero || a == s.One:
		return b
	}
	return Must(semi.Times(s.kind, a, b))
}

// Star returns the sum of all powers of a value.
func (s Semiring) Star(a string) string {
	return Must(semi.Star(s.kind, a))
}

// Must returns the result of a call, unless that is an error.
func Must[T any](result T, e api.Errno) T {
	if e != api.OK {
		panic(e)
	}
	return result
}

// Attempt returns what a computation returns, or the error with which it panics.
func Attempt[T any](compute func() T) (result T, e api.Errno) {
	defer func() {
		if cause := recover(); cause != nil {
			e = cause.(api.Errno)
		}
	}()
	return compute(), api.OK
}
