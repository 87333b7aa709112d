package lot

import (
	"iter"

	"furrowworks/api"
)

// beginning is how a draw begins: which plot is next, the set of those who are left, and who came last.
type beginning struct{ plot, left, last int }

// with returns the beginning that goes on with somebody.
func (b beginning) with(man int) beginning {
	return beginning{b.plot + 1, b.left &^ (1 << man), man}
}

// rest yields those who are left, by their numbers.
func (b beginning) rest() iter.Seq[int] {
	return func(yield func(int) bool) {
		for man := range api.LotMen {
			if b.left&(1<<man) != 0 && !yield(man) {
				return
			}
		}
	}
}

func start(l api.Lots) beginning {
	return beginning{0, everybody(l), nobody}
}

// kept returns a function that finds a number for a beginning, and asks itself for those that go on from it. Each number is found once only: it depends on who is left and who came last alone.
func kept(find func(b beginning, ask func(beginning) int) int) func(beginning) int {
	// A number is kept as one more than it is, so that 0 is one that is not known yet.
	var known [1 << api.LotMen][api.LotMen + 1]int
	var ask func(b beginning) int
	ask = func(b beginning) int {
		k := &known[b.left][b.last]
		if *k == 0 {
			n := find(b, ask)
			*k = n + 1
		}
		return *k - 1
	}
	return ask
}

// choose returns the draw of which pick says, plot by plot, who comes next.
func choose(b beginning, pick func(b beginning) int) []int {
	var draw []int
	for b.left != 0 {
		man := pick(b)
		draw = append(draw, man)
		b = b.with(man)
	}
	return draw
}
