package machine_test

import (
	"cmp"
	"fmt"
	"slices"

	"abugida/api"
)

// trimmed is m trimmed, with the useful states found in a matrix of which state
// reaches which.
func trimmed(m api.Machine) api.Machine {
	n := len(m.States)
	reaches := make([][]bool, n)
	for i := range n {
		reaches[i] = make([]bool, n)
		reaches[i][i] = true
		for _, a := range m.States[i].Arcs {
			reaches[i][a.To] = true
		}
	}
	for k := range n {
		for i := range n {
			for j := range n {
				reaches[i][j] = reaches[i][j] || reaches[i][k] && reaches[k][j]
			}
		}
	}
	number := map[int]int{}
	for i := range n {
		for f := range n {
			if _, done := number[i]; !done && reaches[m.Start][i] && reaches[i][f] && m.States[f].Final != "" {
				number[i] = len(number)
			}
		}
	}
	if len(number) == 0 {
		return nothing(m.Kind)
	}
	t := api.Machine{Kind: m.Kind, Start: number[m.Start], Lead: m.Lead, States: make([]api.State, len(number))}
	for i, s := range m.States {
		k, ok := number[i]
		if !ok {
			continue
		}
		t.States[k].Final = s.Final
		for _, a := range s.Arcs {
			if to, ok := number[a.To]; ok {
				t.States[k].Arcs = append(t.States[k].Arcs, api.Arc{In: a.In, Out: a.Out, W: a.W, To: to})
			}
		}
	}
	return t
}

// ordered is m in normal order: the state that comes next is, again and again,
// the end of the least arc that leads from the first state with an arc to a
// state without a number.
func ordered(m api.Machine) api.Machine {
	t := trimmed(m)
	order := []int{t.Start}
	for {
		next := -1
		for _, s := range order {
			var least api.Arc
			for _, a := range t.States[s].Arcs {
				if !slices.Contains(order, a.To) && (next < 0 || compareArcs(a, least) < 0) {
					least, next = a, a.To
				}
			}
			if next >= 0 {
				break
			}
		}
		if next < 0 {
			break
		}
		order = append(order, next)
	}
	n := api.Machine{Kind: t.Kind, Start: 0, Lead: t.Lead}
	for _, s := range order {
		state := api.State{Final: t.States[s].Final}
		for _, a := range t.States[s].Arcs {
			a.To = slices.Index(order, a.To)
			state.Arcs = append(state.Arcs, a)
		}
		slices.SortFunc(state.Arcs, compareArcs)
		n.States = append(n.States, state)
	}
	return n
}

func compareArcs(a, b api.Arc) int {
	if c := cmp.Compare(a.In, b.In); c != 0 {
		return c
	}
	if c := cmp.Compare(a.Out, b.Out); c != 0 {
		return c
	}
	if c := slices.Compare([]byte(a.W), []byte(b.W)); c != 0 {
		return c
	}
	return cmp.Compare(a.To, b.To)
}

// text writes a machine with all its fields.
func text(m api.Machine) string {
	l := fmt.Appendf(nil, "%d %d %q\n", m.Kind, m.Start, m.Lead)
	for _, s := range m.States {
		l = fmt.Appendf(l, "%q\n", s.Final)
		for _, a := range s.Arcs {
			l = fmt.Appendf(l, "\t%d %d %q %d\n", a.In, a.Out, a.W, a.To)
		}
	}
	return string(l)
}

// same reports whether two machines are equal, by their texts.
func same(a, b api.Machine) bool {
	return text(a) == text(b)
}

// paths lists the paths of at most some arcs, without the numbers of states.
func paths(m api.Machine, arcs int) []string {
	var l []string
	var walk func(state int, path string, left int)
	walk = func(state int, path string, left int) {
		s := m.States[state]
		if s.Final != "" {
			l = append(l, path+" "+s.Final)
		}
		for _, a := range s.Arcs {
			if left > 0 {
				walk(a.To, fmt.Sprintf("%s %d:%d/%s", path, a.In, a.Out, a.W), left-1)
			}
		}
	}
	walk(m.Start, m.Lead, arcs)
	slices.Sort(l)
	return l
}
