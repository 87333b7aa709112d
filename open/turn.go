package open

import (
	"iter"

	"furrowworks/api"
)

// furrows returns how many furrows a plan has for a team that turns so many at a time.
func furrows(p api.Plan, side int) int {
	return gathered(p, side) + p.Left + p.Right
}

// gathered returns how many of a plan's furrows its rounds are.
func gathered(p api.Plan, side int) int {
	return 2 * side * p.Rounds
}

// canTurn tells whether a plan's rounds and casts are lawful.
func canTurn(p api.Plan, side int) bool {
	// No plot has room for more rounds than OpenWide; so the furrows of those that remain can be counted.
	rounds, cast := api.Span{Hi: api.OpenWide}, api.Span{Hi: api.OpenCast}
	return contains(rounds, p.Rounds) && contains(cast, p.Left) && contains(cast, p.Right) && max(p.Left-p.Right, p.Right-p.Left) <= side
}

// turns yields all rounds and casts that a plot may have room for, as plans without widths; rounds never become fewer.
func turns(side int) iter.Seq[api.Plan] {
	return func(yield func(api.Plan) bool) {
		for rounds := 0; 2*side*rounds <= api.OpenWide; rounds++ {
			for left := range api.OpenCast + 1 {
				for right := range api.OpenCast + 1 {
					p := api.Plan{Rounds: rounds, Left: left, Right: right}
					if canTurn(p, side) && !yield(p) {
						return
					}
				}
			}
		}
	}
}

// ways are how many ways there are to have so many furrows.
type ways [api.OpenWide + 1]int

func waysOf(side int) *ways {
	var w ways
	for p := range turns(side) {
		if n := furrows(p, side); n < len(w) {
			w[n]++
		}
	}
	return &w
}
