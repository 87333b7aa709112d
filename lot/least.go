package lot

import (
	"math"

	"furrowworks/api"
)

// costOf returns how many rules somebody breaks who comes next.
func costOf(l api.Lots, b beginning, man int) int {
	n := 0
	for range seatAt(l, b.plot, man, b.last).broken() {
		n++
	}
	return n
}

// leastOf returns a function that tells how many rules those who are left break at least.
func leastOf(l api.Lots) func(beginning) int {
	return kept(func(b beginning, ask func(beginning) int) int {
		if b.left == 0 {
			return 0
		}
		least := math.MaxInt
		for man := range b.rest() {
			least = min(least, costOf(l, b, man)+ask(b.with(man)))
		}
		return least
	})
}

// mild is the first of the draws that break the fewest rules, and how many these are.
type mild struct {
	broken int
	draw   []int
}

func mildest(l api.Lots) mild {
	least := leastOf(l)
	return mild{least(start(l)), choose(start(l), func(b beginning) int {
		man, _ := first(b.rest(), func(man int) bool {
			return costOf(l, b, man)+least(b.with(man)) == least(b)
		})
		return man
	})}
}
