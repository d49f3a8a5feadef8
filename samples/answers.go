package samples

import (
	"abugida/api"
	"abugida/machine"
)

// Test is what the checks of this package need of a test.
type Test interface {
	Helper()
	Errorf(format string, args ...any)
	Fatalf(format string, args ...any)
}

// Answer is what a call that makes a machine returns.
type Answer struct {
	m api.Machine
	e api.Errno
}

// Of makes an answer of the results of a call.
func Of(m api.Machine, e api.Errno) Answer {
	return Answer{m, e}
}

// Done returns the machine, which must be valid.
func (a Answer) Done(t Test, what ...any) api.Machine {
	t.Helper()
	if a.e != api.OK || !machine.Valid(a.m) {
		t.Fatalf("%.100v: %.100v, %v", what, short(a.m), a.e)
	}
	return a.m
}

// Fails checks that there is an error, and no machine with it.
func (a Answer) Fails(t Test, e api.Errno, what ...any) {
	t.Helper()
	if a.e != e || !machine.Same(a.m, api.Machine{}) {
		t.Errorf("%.100v: %.100v, %v, not %v", what, short(a.m), a.e, e)
	}
}

// short returns what is shown of a machine: not all the states of a large one.
func short(m api.Machine) api.Machine {
	m.States = m.States[:min(len(m.States), 10)]
	return m
}
