package open

import "furrowworks/api"

// order says which of two plans is better.
type order interface {
	better(a, b api.Plan) bool
}

// byPasses is the order by passes alone, for a team that turns so many furrows at a time.
type byPasses struct{ side int }

func (o byPasses) better(a, b api.Plan) bool {
	return o.passes(a) < o.passes(b)
}

func (o byPasses) passes(p api.Plan) int {
	return 2*p.Rounds + up(p.Left, o.side) + up(p.Right, o.side)
}

// byAll is the order by passes, and of equally many passes by all else that is looked at.
type byAll struct{ byPasses }

func (o byAll) better(a, b api.Plan) bool {
	if !areEqual(o.byPasses, a, b) {
		return o.byPasses.better(a, b)
	}
	for _, l := range looks() {
		if x, y := l.at(a), l.at(b); x != y {
			return l.better(x, y)
		}
	}
	return false
}

func areEqual(o order, a, b api.Plan) bool {
	return !o.better(a, b) && !o.better(b, a)
}

// look is a number of a plan that is looked at, and which of two such numbers is better.
type look struct {
	at     func(p api.Plan) int
	better func(a, b int) bool
}

// looks returns what is looked at, in this order, among plans with equally many passes.
func looks() []look {
	return []look{
		{func(p api.Plan) int { return p.Rounds }, isMore},
		{func(p api.Plan) int { return p.Opening }, isLess},
		{func(p api.Plan) int { return p.Left }, isLess},
		{func(p api.Plan) int { return p.Right }, isLess},
		{func(p api.Plan) int { return p.Furrow }, isLess},
	}
}

func isLess(a, b int) bool { return a < b }

func isMore(a, b int) bool { return a > b }

// keeper keeps the best of all that is offered to it.
type keeper[T any] struct {
	better func(a, b T) bool
	kept   T
	some   bool
}

func (k *keeper[T]) offer(x T) {
	if !k.some || k.better(x, k.kept) {
		k.kept, k.some = x, true
	}
}

// or returns what is kept, or another one if nothing was offered.
func (k *keeper[T]) or(other T) T {
	if k.some {
		return k.kept
	}
	return other
}
