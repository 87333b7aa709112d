package furrow

import (
	"iter"

	"furrowworks/api"
)

// span is a span of api that can be asked, and gone through.
type span struct{ api.Span }

// between returns the span from one number to another one.
func between(lo, hi int) span {
	return span{api.Span{Lo: lo, Hi: hi}}
}

// within tells whether a span is valid, and within two numbers.
func (s span) within(lo, hi int) bool {
	return lo <= s.Lo && s.Lo <= s.Hi && s.Hi <= hi
}

// all yields the numbers of a span, from the least one on.
func (s span) all() iter.Seq[int] {
	return func(yield func(int) bool) {
		for n := s.Lo; n <= s.Hi; n++ {
			if !yield(n) {
				return
			}
		}
	}
}

// times returns the products of a number of each of two spans, none of which is below 0.
func (s span) times(o span) span {
	return between(s.Lo*o.Lo, s.Hi*o.Hi)
}

func sum(spans ...span) span {
	var all span
	for _, s := range spans {
		all.Lo += s.Lo
		all.Hi += s.Hi
	}
	return all
}

// first returns the first one that suits, and whether there is one.
func first[T any](all iter.Seq[T], suits func(T) bool) (found T, ok bool) {
	for x := range all {
		if suits(x) {
			return x, true
		}
	}
	return found, false
}
