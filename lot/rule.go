package lot

import (
	"iter"

	"furrowworks/api"
)

// nobody is who comes ahead of the one on the first plot.
const nobody = api.LotMen

// seat is what a rule looks at: who ploughs a plot, who the one before it, and what plot it is. Nobody looks like somebody of no club.
type seat struct {
	man, before  api.LotMan
	inner, worst bool
}

// seatAt returns the seat of a ploughman at a plot, next to another one, or to nobody.
func seatAt(l api.Lots, plot, man, before int) seat {
	s := seat{
		man:   l.Men[man],
		inner: 0 < plot && plot < len(l.Men)-1,
		worst: l.Worst&(1<<plot) != 0,
	}
	if before != nobody {
		s.before = l.Men[before]
	}
	return s
}

// seatIn returns the seat at a plot of a draw.
func seatIn(l api.Lots, draw []int, plot int) seat {
	before := nobody
	if plot > 0 {
		before = draw[plot-1]
	}
	return seatAt(l, plot, draw[plot], before)
}

// rule is a rule with its number, and whether a seat breaks it.
type rule struct {
	number int
	broken func(s seat) bool
}

// rules returns all rules, by their numbers.
func rules() []rule {
	return []rule{
		{api.LotClub, func(s seat) bool { return s.man.Club != 0 && s.man.Club == s.before.Club }},
		{api.LotEdge, func(s seat) bool { return s.man.Left && s.inner }},
		{api.LotNovice, func(s seat) bool { return s.man.Novice && s.worst }},
	}
}

// broken yields the numbers of the rules that a seat breaks.
func (s seat) broken() iter.Seq[int] {
	return func(yield func(int) bool) {
		for _, r := range rules() {
			if r.broken(s) && !yield(r.number) {
				return
			}
		}
	}
}

func (s seat) lawful() bool {
	_, some := first(s.broken(), anyOne)
	return !some
}

// fault is a rule that is broken, and at which plot.
type fault struct{ plot, rule int }

// faults yields all that is wrong with a draw, plot by plot.
func faults(l api.Lots, draw []int) iter.Seq[fault] {
	return func(yield func(fault) bool) {
		for plot := range draw {
			for rule := range seatIn(l, draw, plot).broken() {
				if !yield(fault{plot, rule}) {
					return
				}
			}
		}
	}
}

// lawful tells whether nothing is wrong with a draw.
func lawful(l api.Lots, draw []int) bool {
	_, some := first(faults(l, draw), anyOne)
	return !some
}

// canSwap tells whether a lawful draw is lawful again if those on two plots change places.
func canSwap(l api.Lots, draw []int, a, b int) bool {
	changed := make([]int, len(draw))
	copy(changed, draw)
	changed[a], changed[b] = changed[b], changed[a]
	for plot := range changed {
		// What looks as it did before is as lawful as it was before.
		now := seatIn(l, changed, plot)
		if now != seatIn(l, draw, plot) && !now.lawful() {
			return false
		}
	}
	return true
}

// first returns the first one that suits, and whether there is one.
func first[T any](all iter.Seq[T], suits func(T) bool) (found T, ok bool) {
	for x := range all {
		if suits(x) {
			return x, true
		}
	}
	return found, false
}

// anyOne suits always.
func anyOne[T any](T) bool { return true }
