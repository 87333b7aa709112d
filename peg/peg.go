// Package peg is layer 1: it says where pegs stand, and which one was moved (see shared/doc/01-peg.md).
package peg

import "furrowworks/api"

// Moved returns the set of the pegs that can have been moved, and whether it need not have been one.
func Moved(p api.Pegs) (pegs int, none bool, e api.Errno) {
	s, e := told(func() suspects {
		check(p)
		s := suspects{all: 1<<len(p.Posts) - 1}
		ask(p, &s)
		return s
	})
	return s.pegs, s.none, e
}

// Where returns from where to where a peg can stand.
func Where(p api.Pegs, peg int) (x, y api.Span, e api.Errno) {
	both, e := told(func() [2]api.Span {
		check(p, peg)
		var x, y ends[int]
		for s := range standsOf(p, peg) {
			x.add(s.x)
			y.add(s.y)
		}
		return [2]api.Span{span(x), span(y)}
	})
	return both[0], both[1], e
}

// Places returns at how many places a peg can stand.
func Places(p api.Pegs, peg int) (int, api.Errno) {
	return told(func() int {
		check(p, peg)
		return len(standsOf(p, peg))
	})
}

// Apart returns the square of the distance of two pegs.
func Apart(p api.Pegs, a, b int) (api.Span, api.Errno) {
	return told(func() api.Span {
		check(p, a, b)
		var sizes ends[int]
		ask(p, distance{a, b, sizes.add})
		return span(sizes)
	})
}

// Area returns twice the area of the triangle of three pegs.
func Area(p api.Pegs, a, b, c int) (api.Span, api.Errno) {
	return told(func() api.Span {
		check(p, a, b, c)
		if a == b || b == c || c == a {
			panic(api.ErrRange)
		}
		var sizes ends[int]
		ask(p, triangle{a, b, c, sizes.add})
		return span(sizes)
	})
}

// Back returns the square of the distance by which a peg must go back if it was moved.
func Back(p api.Pegs, peg int) (api.Span, api.Errno) {
	return told(func() api.Span {
		check(p, peg)
		moved := astray{standing{peg, map[place]bool{}}}
		ask(p, moved)
		var ways ends[int]
		for s := range moved.seen {
			ways.add(wayBack(s, p.Posts[peg]))
		}
		if !ways.some {
			panic(api.ErrRefuse)
		}
		return span(ways)
	})
}

// Proof returns the set of the fewest lengths that prove that a peg was moved.
func Proof(p api.Pegs, peg int) (lengths int, e api.Errno) {
	return told(func() int {
		check(p, peg)
		found := evidence{peg: peg, lengths: p.Lengths}
		// Each set of lengths has truths of its own, so all truths without any length are asked.
		ask(api.Pegs{Side: p.Side, Posts: p.Posts}, &found)
		set, ok := first(sets(len(p.Lengths)), found.prove)
		if !ok {
			panic(api.ErrNone)
		}
		return set
	})
}
