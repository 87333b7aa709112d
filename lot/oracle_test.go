package lot_test

import (
	"math/rand/v2"
	"slices"

	"furrowworks/api"
)

// The oracle writes down all draws, in their order, and keeps those that the chapter calls lawful.

// fault is a rule that is broken, and at which plot.
type fault struct{ plot, rule int }

// faultsOf returns all that is wrong with a draw, plot by plot.
func faultsOf(l api.Lots, draw []int) []fault {
	var all []fault
	for plot, man := range draw {
		m := l.Men[man]
		if plot > 0 && m.Club != 0 && l.Men[draw[plot-1]].Club == m.Club {
			all = append(all, fault{plot, 1})
		}
		if m.Left && plot != 0 && plot != len(draw)-1 {
			all = append(all, fault{plot, 2})
		}
		if m.Novice && l.Worst>>plot%2 == 1 {
			all = append(all, fault{plot, 3})
		}
	}
	return all
}

// orders returns all draws of so many ploughmen, lawful or not.
func orders(men int) [][]int {
	var all [][]int
	var add func(draw []int)
	add = func(draw []int) {
		if len(draw) == men {
			all = append(all, slices.Clone(draw))
			return
		}
		for man := range men {
			if !slices.Contains(draw, man) {
				add(append(slices.Clone(draw), man))
			}
		}
	}
	add(nil)
	return all
}

func isLawful(l api.Lots, draw []int) bool { return len(faultsOf(l, draw)) == 0 }

// lawfulOf returns all lawful draws.
func lawfulOf(l api.Lots) [][]int {
	return slices.DeleteFunc(orders(len(l.Men)), func(draw []int) bool { return !isLawful(l, draw) })
}

// comersTo returns with whom a beginning is the beginning of one of the draws.
func comersTo(draws [][]int, begin []int) []int {
	came := map[int]bool{}
	for _, draw := range draws {
		if slices.Equal(draw[:len(begin)], begin) {
			came[draw[len(begin)]] = true
		}
	}
	var can []int
	for man := range api.LotMen {
		if came[man] {
			can = append(can, man)
		}
	}
	return can
}

// drawnBy returns which of the lawful draws is drawn by a seed.
func drawnBy(lawful [][]int, seed int) []int {
	var begin []int
	number := seed
	for len(lawful) > 0 && len(begin) < len(lawful[0]) {
		number = (number*75 + 74) % 65537
		can := comersTo(lawful, begin)
		begin = append(begin, can[number%len(can)])
	}
	return begin
}

// oftenIn returns how many of the draws have somebody on a plot.
func oftenIn(draws [][]int, man, plot int) int {
	n := 0
	for _, draw := range draws {
		if draw[plot] == man {
			n++
		}
	}
	return n
}

// swapped returns a draw in which those on two plots have changed places.
func swapped(draw []int, a, b int) []int {
	draw = slices.Clone(draw)
	draw[a], draw[b] = draw[b], draw[a]
	return draw
}

func swapsOf(l api.Lots, draw []int) [][2]int {
	var all [][2]int
	for a := range draw {
		for b := range draw {
			if a < b && isLawful(l, swapped(draw, a, b)) {
				all = append(all, [2]int{a, b})
			}
		}
	}
	return all
}

func leastOf(l api.Lots) (broken int, draw []int) {
	for _, d := range orders(len(l.Men)) {
		if n := len(faultsOf(l, d)); draw == nil || n < broken {
			broken, draw = n, d
		}
	}
	return broken, draw
}

// dice are numbers that are the same in each run.
func dice(seed uint64) *rand.Rand { return rand.New(rand.NewPCG(seed, 7)) }

// some returns valid lots of so many ploughmen; the fewer clubs there are, the fewer draws are lawful.
func some(r *rand.Rand, men int) api.Lots {
	l := api.Lots{Worst: r.IntN(1<<men) & r.IntN(1<<men)}
	clubs, left, novice := r.IntN(api.LotClubs+1), 2+r.IntN(5), 1+r.IntN(5)
	for range men {
		l.Men = append(l.Men, api.LotMan{Club: r.IntN(clubs + 1), Left: r.IntN(left) == 0, Novice: r.IntN(novice) == 0})
	}
	return l
}
