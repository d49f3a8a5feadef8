package weigh

import (
	"iter"
	"maps"
	"slices"

	"abugida/api"
)

// words yields the words of an acceptor that have at most so many symbols, in
// the order of words. A word is changed when the next one is asked for.
func (r *relation) words(most int) iter.Seq[[]int] {
	return func(yield func(word []int) bool) {
		ends := r.ends(most)
		start := setOf(len(r.machine.States), r.machine.Start)
		r.spread(start)
		for n := range most + 1 {
			if ends[n].has(r.machine.Start) && !r.spell(nil, start, ends[:n+1], yield) {
				return
			}
		}
	}
}

// ends returns, for each number of symbols up to the greatest, the states from
// which so many lead to the end.
func (r *relation) ends(most int) []set {
	l := []set{r.before(func(s api.State) bool { return s.Final != "" })}
	for n := range most {
		l = append(l, r.before(func(s api.State) bool {
			return slices.ContainsFunc(s.Arcs, func(a api.Arc) bool { return a.In != 0 && l[n].has(a.To) })
		}))
	}
	return l
}

// before returns the states with a property, and those from which silent paths
// lead to such states.
func (r *relation) before(has func(s api.State) bool) set {
	goal := setOf(len(r.machine.States))
	for i, s := range r.machine.States {
		if has(s) {
			goal.add(i)
		}
	}
	l := slices.Clone(goal)
	for i, further := range r.silent {
		if further.meets(goal) {
			l.add(i)
		}
	}
	return l
}

// spell yields the words that begin with a word, which leads to some states, and
// go on from there with one symbol for each but the first of the ends. It reports
// whether more are wanted. At least one of the states is in the last of the ends,
// so that no search is in vain.
func (r *relation) spell(word []int, states set, ends []set, yield func(word []int) bool) bool {
	left := len(ends) - 1
	if left == 0 {
		return yield(word)
	}
	for symbol, next := range r.steps(states, ends[left-1]) {
		if !r.spell(append(word, symbol), next, ends[:left], yield) {
			return false
		}
	}
	return true
}

// steps yields the symbols, in increasing order, that lead from some states to
// wanted ones, and all the states to which they lead by way of these.
func (r *relation) steps(states, wanted set) iter.Seq2[int, set] {
	return func(yield func(symbol int, next set) bool) {
		next := map[int]set{}
		for state := range states.all() {
			for _, a := range r.machine.States[state].Arcs {
				if a.In == 0 || !wanted.has(a.To) {
					continue
				}
				if next[a.In] == nil {
					next[a.In] = setOf(len(r.machine.States))
				}
				next[a.In].add(a.To)
			}
		}
		for _, symbol := range slices.Sorted(maps.Keys(next)) {
			r.spread(next[symbol])
			if !yield(symbol, next[symbol]) {
				return
			}
		}
	}
}
