package lot

import (
	"iter"

	"furrowworks/api"
)

// trial tries draws, ploughman by ploughman.
type trial interface {
	// start returns where draws begin.
	start() beginning
	// lets tells whether a draw that is to be counted can go on with somebody.
	lets(b beginning, man int) bool
}

// allDraws are all lawful draws.
type allDraws struct{ api.Lots }

func (d allDraws) start() beginning { return start(d.Lots) }

func (d allDraws) lets(b beginning, man int) bool {
	return seatAt(d.Lots, b.plot, man, b.last).lawful()
}

// drawsWith are the lawful draws with somebody on a plot.
type drawsWith struct {
	allDraws
	man, plot int
}

func (d drawsWith) lets(b beginning, man int) bool {
	return (man == d.man) == (b.plot == d.plot) && d.allDraws.lets(b, man)
}

// tally knows how many of the draws that are tried go on from a beginning.
type tally struct {
	trial
	ways func(b beginning) int
}

func tallyOf(t trial) tally {
	return tally{t, kept(func(b beginning, ask func(beginning) int) int {
		if b.left == 0 {
			return 1
		}
		n := 0
		for man := range b.rest() {
			if t.lets(b, man) {
				n += ask(b.with(man))
			}
		}
		return n
	})}
}

func (t tally) count() int { return t.ways(t.start()) }

// comers yields those who can come now, by their numbers, each with how many draws go on so.
func (t tally) comers(b beginning) iter.Seq2[int, int] {
	return func(yield func(man, ways int) bool) {
		for man := range b.rest() {
			if !t.lets(b, man) {
				continue
			}
			if n := t.ways(b.with(man)); n > 0 && !yield(man, n) {
				return
			}
		}
	}
}

// nth returns the draw with an index.
func (t tally) nth(index int) []int {
	if index < 0 {
		panic(api.ErrNone)
	}
	var draw []int
	b := t.start()
plots:
	for b.left != 0 {
		for man, ways := range t.comers(b) {
			if index < ways {
				draw = append(draw, man)
				b = b.with(man)
				continue plots
			}
			index -= ways
		}
		panic(api.ErrNone)
	}
	return draw
}

// place returns the index of a draw: how many draws begin like it, and go on with somebody of a lesser number.
func (t tally) place(draw []int) int {
	index := 0
	b := t.start()
plots:
	for _, next := range draw {
		for man, ways := range t.comers(b) {
			if man == next {
				b = b.with(man)
				continue plots
			}
			index += ways
		}
		panic(api.ErrNone)
	}
	return index
}

// numbers are made of a seed, one of the other.
type numbers struct{ last int }

func (n *numbers) next() int {
	n.last = (api.LotFactor*n.last + api.LotStep) % api.LotModulus
	return n.last
}

// drawn returns the draw for which next makes the numbers.
func (t tally) drawn(next func() int) []int {
	return choose(t.start(), func(b beginning) int {
		var can []int
		for man := range t.comers(b) {
			can = append(can, man)
		}
		if len(can) == 0 {
			panic(api.ErrNone)
		}
		return can[next()%len(can)]
	})
}
