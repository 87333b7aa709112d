package peg

import (
	"cmp"
	"iter"
	"math/bits"

	"furrowworks/api"
)

// ends are the least and the greatest of the numbers that were added, if there are some.
type ends[N cmp.Ordered] struct {
	lo, hi N
	some   bool
}

func (e *ends[N]) add(n N) {
	if !e.some {
		e.lo, e.hi, e.some = n, n, true
		return
	}
	e.lo = min(e.lo, n)
	e.hi = max(e.hi, n)
}

func span(e ends[int]) api.Span {
	return api.Span{Lo: e.lo, Hi: e.hi}
}

// sets yields all sets of the numbers less than n: those with fewer elements first, and of these the lesser ones first.
func sets(n int) iter.Seq[int] {
	return func(yield func(int) bool) {
		for size := 0; size <= n; size++ {
			for set := 0; set < 1<<n; set++ {
				if bits.OnesCount(uint(set)) == size && !yield(set) {
					return
				}
			}
		}
	}
}

// first returns the first one that suits, and whether there is one.
func first[T any](all iter.Seq[T], suits func(T) bool) (found T, ok bool) {
	for x := range all {
		if suits(x) {
			return x, true
		}
	}
	return found, false
}
