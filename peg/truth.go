package peg

import (
	"iter"
	"slices"

	"furrowworks/api"
)

// nobody is given as the one that was moved where none was.
const nobody = -1

// place is where a peg can stand.
type place struct{ x, y int }

// places are where pegs stand, by their numbers; those beyond the last peg mean nothing.
type places [api.PegPosts]place

// truths yields the places of all pegs in each truth, with the peg that was moved, or nobody. The pegs must be valid.
func truths(p api.Pegs) iter.Seq2[places, int] {
	return func(yield func(places, int) bool) {
		home, away := spots(p)
		var at places
		var put func(peg, moved int) bool
		put = func(peg, moved int) bool {
			if peg == len(p.Posts) {
				return yield(at, moved)
			}
			here := home[peg]
			if peg == moved {
				here = away[peg]
			}
			for _, s := range here {
				at[peg] = s
				if lengthsRight(p.Lengths, at, peg) && !put(peg+1, moved) {
					return false
				}
			}
			return true
		}
		for moved := nobody; moved < len(p.Posts); moved++ {
			if !put(0, moved) {
				return
			}
		}
	}
}

// spots returns for each peg the places at its post, and the other ones of the field.
func spots(p api.Pegs) (home, away [api.PegPosts][]place) {
	side := api.Span{Lo: 0, Hi: p.Side}
	for i, post := range p.Posts {
		home[i] = rectangle(post.X, post.Y)
		away[i] = slices.DeleteFunc(rectangle(side, side), func(s place) bool {
			return slices.Contains(home[i], s)
		})
	}
	return home, away
}

func rectangle(x, y api.Span) []place {
	var all []place
	for i := x.Lo; i <= x.Hi; i++ {
		for j := y.Lo; j <= y.Hi; j++ {
			all = append(all, place{i, j})
		}
	}
	return all
}

// lengthsRight tells whether all lengths from this peg to lesser ones are right. Those to greater ones have to wait until these are placed.
func lengthsRight(lengths []api.Length, at places, peg int) bool {
	for _, l := range lengths {
		if max(l.First, l.Second) == peg && !right(l, at) {
			return false
		}
	}
	return true
}

func right(l api.Length, at places) bool {
	d := apart(at[l.First], at[l.Second])
	return squares(l.Links.Lo) <= d && d <= squares(l.Links.Hi)
}

// apart returns the square of the distance of two places.
func apart(a, b place) int {
	return squares(a.x-b.x, a.y-b.y)
}

// twiceArea returns twice the area of the triangle of three places.
func twiceArea(a, b, c place) int {
	n := (b.x-a.x)*(c.y-a.y) - (c.x-a.x)*(b.y-a.y)
	return max(n, -n)
}

// wayBack returns the least square of the distance of a place and of one at the post.
func wayBack(s place, post api.Post) int {
	return squares(beyond(s.x, post.X), beyond(s.y, post.Y))
}

// beyond returns how far a number is from the nearest one of a span.
func beyond(n int, s api.Span) int {
	return max(s.Lo-n, n-s.Hi, 0)
}

func squares(numbers ...int) int {
	sum := 0
	for _, n := range numbers {
		sum += n * n
	}
	return sum
}
