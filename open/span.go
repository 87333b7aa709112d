package open

import (
	"iter"

	"furrowworks/api"
)

// within tells whether a span is valid, and within two numbers.
func within(s api.Span, lo, hi int) bool {
	return lo <= s.Lo && s.Lo <= s.Hi && s.Hi <= hi
}

func contains(s api.Span, n int) bool {
	return s.Lo <= n && n <= s.Hi
}

// size returns how many numbers a span contains; one that is not valid contains none.
func size(s api.Span) int {
	return max(s.Hi-s.Lo+1, 0)
}

// overlap returns the numbers that two spans both contain.
func overlap(a, b api.Span) api.Span {
	return api.Span{Lo: max(a.Lo, b.Lo), Hi: least(a.Hi, b.Hi)}
}

// times returns a span whose ends are so many times as great.
func times(n int, s api.Span) api.Span {
	return api.Span{Lo: n * s.Lo, Hi: n * s.Hi}
}

// all yields the numbers of a span, from the least one on.
func all(s api.Span) iter.Seq[int] {
	return func(yield func(int) bool) {
		for n := s.Lo; n <= s.Hi; n++ {
			if !yield(n) {
				return
			}
		}
	}
}

func least(first int, others ...int) int {
	for _, n := range others {
		if n < first {
			first = n
		}
	}
	return first
}

// down returns a quotient, rounded down, of a divisor above 0.
func down(a, b int) int {
	if a%b < 0 {
		return a/b - 1
	}
	return a / b
}

// up returns a quotient, rounded up, of a divisor above 0.
func up(a, b int) int {
	return -down(-a, b)
}
