package machine_test

import (
	"math/rand/v2"
	"slices"
	"testing"

	"abugida/api"
	"abugida/machine"
)

func trim(t *testing.T, m api.Machine) api.Machine {
	t.Helper()
	n, e := machine.Trim(m)
	if e != api.OK {
		t.Fatalf("Trim: %v", e)
	}
	return n
}

func canon(t *testing.T, m api.Machine) api.Machine {
	t.Helper()
	n, e := machine.Canon(m)
	if e != api.OK {
		t.Fatalf("Canon: %v", e)
	}
	return n
}

// P6.4: the examples, and arcs that are almost as the properties want them.
func TestPropertiesExamples(t *testing.T) {
	check := func(what string, m api.Machine, acceptor, quiet, deterministic, empty bool, sigma int) {
		t.Helper()
		a, q, d, e, s := machine.Acceptor(m), machine.Quiet(m), machine.Deterministic(m), machine.Empty(m), machine.Sigma(m)
		if a != acceptor || q != quiet || d != deterministic || e != empty || s != sigma {
			t.Errorf("%.50s: %v, %v, %v, %v, %d", what, a, q, d, e, s)
		}
	}
	check("m", example(), true, true, false, false, 2)
	check("Trim of m", trim(t, example()), true, true, true, false, 2)
	loop := func(pairs ...int) api.Machine {
		m := api.Machine{Kind: api.Viterbi, Lead: "1", States: []api.State{{Final: "1"}}}
		for i := 0; i < len(pairs); i += 2 {
			m.States[0].Arcs = append(m.States[0].Arcs, api.Arc{In: pairs[i], Out: pairs[i+1], W: "1"})
		}
		return m
	}
	check("no arcs", loop(), true, true, true, false, 0)
	check("500", loop(1, 1, 500, 500), true, true, true, false, 500)
	check("silent", loop(0, 0), true, false, false, false, 0)
	check("in only", loop(499, 0), false, true, false, false, 499)
	check("out only", loop(0, 498), false, true, false, false, 498)
	check("1:2, 2:1", loop(1, 2, 2, 1), false, true, false, false, 2)
	check("3, 4, 3", loop(3, 3, 4, 4, 3, 3), true, true, false, false, 4)
	m := nothing(api.Tropical)
	check("nothing", m, true, true, true, true, 0)
	// A useless state counts, except for Empty.
	m.States = append(m.States, api.State{Final: "0", Arcs: []api.Arc{{In: 7, Out: 9, W: "1", To: 1}}})
	check("useless", m, false, true, false, true, 9)
	m.States[1].Arcs = []api.Arc{{W: "1", To: 1}}
	check("useless and silent", m, true, false, false, true, 0)
	eachInvalid(func(what string, m api.Machine) {
		check(what, m, false, false, false, false, 0)
	})
}

// P6.4: the properties of many machines, arc by arc and pair by pair.
func TestProperties(t *testing.T) {
	check := func(what string, m api.Machine) {
		acceptor, quiet, single, sigma := true, true, true, 0
		for _, s := range m.States {
			for i, a := range s.Arcs {
				acceptor = acceptor && a.In == a.Out
				quiet = quiet && a.In+a.Out > 0
				sigma = max(sigma, a.In, a.Out)
				single = single && !slices.ContainsFunc(s.Arcs[:i], func(b api.Arc) bool { return b.In == a.In })
			}
		}
		if machine.Acceptor(m) != acceptor || machine.Quiet(m) != quiet || machine.Sigma(m) != sigma {
			t.Fatalf("%s %v: acceptor %v, quiet %v, sigma %d", what, m, acceptor, quiet, sigma)
		}
		if d := acceptor && quiet && single; machine.Deterministic(m) != d {
			t.Fatalf("%s %v: deterministic %v", what, m, d)
		}
		if empty := len(paths(m, len(m.States)-1)) == 0; machine.Empty(m) != empty {
			t.Fatalf("%s %v: empty %v", what, m, empty)
		}
	}
	r := rand.New(rand.NewPCG(6, 4))
	for range 2000 {
		check("random", random(r, 1+r.IntN(4), r.IntN(6)))
		check("random acceptor", acceptor(r, 1+r.IntN(4)))
	}
	eachTiny(func(m api.Machine) { check("tiny", m) })
}

// P6.5: trimming changes no path, leaves only states that are on one, and
// trimming again changes nothing.
func TestTrimLaws(t *testing.T) {
	eachSmall(func(what string, m api.Machine) {
		n := trim(t, m)
		if !slices.Equal(paths(m, 3), paths(n, 3)) {
			t.Fatalf("%s %v: Trim has changed the paths", what, m)
		}
		if !same(trim(t, n), n) {
			t.Fatalf("%s %v: trimming again changes it", what, m)
		}
		if machine.Empty(m) != same(n, nothing(m.Kind)) || machine.Empty(n) != machine.Empty(m) {
			t.Fatalf("%s %v: Empty is %v", what, m, machine.Empty(m))
		}
		for i := range n.States {
			from, to := n, machine.Clone(n)
			from.Start = i
			for j := range to.States {
				to.States[j].Final = map[bool]string{true: "1"}[j == i]
			}
			if !machine.Empty(n) && (machine.Empty(from) || machine.Empty(to)) {
				t.Fatalf("%s %v: state %d is on no path", what, n, i)
			}
		}
	})
}

// P6.6: the normal order of a normal order, and of a trimmed machine.
func TestCanonLaws(t *testing.T) {
	eachSmall(func(what string, m api.Machine) {
		n := canon(t, m)
		if !same(canon(t, n), n) || !same(canon(t, trim(t, m)), n) || !same(trim(t, n), n) {
			t.Fatalf("%s %v: %v", what, m, n)
		}
		if !slices.Equal(paths(m, 3), paths(n, 3)) {
			t.Fatalf("%s %v: Canon has changed the paths", what, m)
		}
	})
}

// P6.7: renumbering a deterministic acceptor does not change its normal order.
func TestRenumbering(t *testing.T) {
	r := rand.New(rand.NewPCG(6, 5))
	for range 2000 {
		m := acceptor(r, 1+r.IntN(8))
		if !machine.Deterministic(m) {
			t.Fatalf("%v is not deterministic", m)
		}
		if n := renumbered(r, m); !same(canon(t, n), canon(t, m)) {
			t.Fatalf("Canon of %v and of %v differ", m, n)
		}
	}
}
