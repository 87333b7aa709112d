package peg_test

import (
	"math/bits"
	"math/rand/v2"

	"furrowworks/api"
)

// The oracle tries each place of the field for each peg, and keeps what the chapter calls a truth.

type spot struct{ x, y int }

// fact is a truth: where the pegs stand, and which one was moved (-1: none).
type fact struct {
	at    []spot
	moved int
}

func in(n int, s api.Span) bool { return s.Lo <= n && n <= s.Hi }

func square(a, b spot) int { return (a.x-b.x)*(a.x-b.x) + (a.y-b.y)*(a.y-b.y) }

// facts returns all truths of pegs.
func facts(p api.Pegs) []fact {
	var all []fact
	at := make([]spot, len(p.Posts))
	var put func(i int)
	put = func(i int) {
		if i < len(at) {
			for x := 0; x <= p.Side; x++ {
				for y := 0; y <= p.Side; y++ {
					at[i] = spot{x, y}
					put(i + 1)
				}
			}
			return
		}
		if moved, ok := judge(p, at); ok {
			all = append(all, fact{append([]spot(nil), at...), moved})
		}
	}
	put(0)
	return all
}

// judge returns which peg was moved, and whether these places are a truth.
func judge(p api.Pegs, at []spot) (moved int, ok bool) {
	moved = -1
	for i, q := range p.Posts {
		if !in(at[i].x, q.X) || !in(at[i].y, q.Y) {
			if moved >= 0 {
				return 0, false
			}
			moved = i
		}
	}
	for _, l := range p.Lengths {
		if d := square(at[l.First], at[l.Second]); d < l.Links.Lo*l.Links.Lo || d > l.Links.Hi*l.Links.Hi {
			return 0, false
		}
	}
	return moved, true
}

// reach returns the least and the greatest of some numbers of truths.
func reach(all []fact, of func(f fact) int) api.Span {
	s := api.Span{}
	for i, f := range all {
		n := of(f)
		if i == 0 {
			s = api.Span{Lo: n, Hi: n}
		}
		s = api.Span{Lo: min(s.Lo, n), Hi: max(s.Hi, n)}
	}
	return s
}

func twice(a, b, c spot) int {
	n := (b.x-a.x)*(c.y-a.y) - (c.x-a.x)*(b.y-a.y)
	if n < 0 {
		return -n
	}
	return n
}

// home returns the least square of the distance of a place and of any place at the post.
func home(s spot, q api.Post) int {
	least := -1
	for x := q.X.Lo; x <= q.X.Hi; x++ {
		for y := q.Y.Lo; y <= q.Y.Hi; y++ {
			if d := square(s, spot{x, y}); least < 0 || d < least {
				least = d
			}
		}
	}
	return least
}

// only returns pegs with the lengths of a set alone.
func only(p api.Pegs, set int) api.Pegs {
	var kept []api.Length
	for i, l := range p.Lengths {
		if set&(1<<i) != 0 {
			kept = append(kept, l)
		}
	}
	p.Lengths = kept
	return p
}

// proves tells whether the lengths of a set prove that a peg was moved.
func proves(p api.Pegs, set, peg int) bool {
	all := facts(only(p, set))
	for _, f := range all {
		if f.moved != peg {
			return false
		}
	}
	return len(all) > 0
}

// proof returns the fewest lengths that prove that a peg was moved.
func proof(p api.Pegs, peg int) (int, api.Errno) {
	best := -1
	for set := range 1 << len(p.Lengths) {
		if (best < 0 || bits.OnesCount(uint(set)) < bits.OnesCount(uint(best))) && proves(p, set, peg) {
			best = set
		}
	}
	if best < 0 {
		return 0, api.ErrNone
	}
	return best, api.OK
}

// dice are numbers that are the same in each run.
func dice(seed uint64) *rand.Rand { return rand.New(rand.NewPCG(seed, 7)) }

func someSpan(r *rand.Rand, most, wide int) api.Span {
	lo := r.IntN(most + 1)
	return api.Span{Lo: lo, Hi: min(most, lo+r.IntN(wide+1))}
}

// some returns valid pegs in a small field; lengths are tight, so that often they clash, or prove something.
func some(r *rand.Rand, side, posts, lengths int) api.Pegs {
	p := api.Pegs{Side: r.IntN(side + 1)}
	for range r.IntN(posts + 1) {
		p.Posts = append(p.Posts, api.Post{X: someSpan(r, p.Side, r.IntN(3)), Y: someSpan(r, p.Side, r.IntN(3))})
	}
	if len(p.Posts) < 2 {
		return p
	}
	for range r.IntN(lengths + 1) {
		a := r.IntN(len(p.Posts))
		b := (a + 1 + r.IntN(len(p.Posts)-1)) % len(p.Posts)
		p.Lengths = append(p.Lengths, api.Length{First: a, Second: b, Links: someSpan(r, p.Side+1, 2)})
	}
	return p
}
