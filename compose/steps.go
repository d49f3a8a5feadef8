package compose

import (
	"abugida/api"
	"abugida/semi"
)

// pair is where two machines are. Between two symbols at which they meet, each of
// them goes on alone, and the order in which they do so makes no difference. So that
// only one order is a path, the first machine goes first: once the second one has gone
// on alone, the first one waits until they meet. waits says that it could go on alone,
// but has to wait.
type pair struct {
	first, second int
	waits         bool
}

// step leads to a pair by arcs of both machines, or of one of them.
type step struct {
	in, out int
	// The weights of both arcs, One for a machine that stays where it is.
	first, second string
	to            pair
}

// stepper returns the function that visits the steps from a pair.
func stepper(a, b api.Machine) func(at pair, visit func(s step)) {
	one := semi.One(a.Kind)
	firsts := fans(a, func(x api.Arc) int { return x.Out })
	seconds := fans(b, func(y api.Arc) int { return y.In })
	return func(at pair, visit func(s step)) {
		p, q := firsts(at.first), seconds(at.second)
		if !at.waits {
			for _, x := range p.alone {
				visit(step{x.In, 0, x.W, one, pair{x.To, at.second, false}})
			}
		}
		if p.stays {
			for _, y := range q.alone {
				visit(step{0, y.Out, one, y.W, pair{at.first, y.To, len(p.alone) > 0}})
			}
		}
		meet(p.bundles, q.bundles, func(x, y api.Arc) {
			visit(step{x.In, y.Out, x.W, y.W, pair{x.To, y.To, false}})
		})
	}
}
