package furrow_test

import (
	"math/bits"
	"math/rand/v2"
	"slices"

	"furrowworks/api"
)

// The oracle lays the furrow in all ways, one after the other, and looks at each as a whole.

func dice(seed uint64) *rand.Rand { return rand.New(rand.NewPCG(seed, seed)) }

// spanOf is a span within two numbers that is no wider than so much.
func spanOf(r *rand.Rand, lo, hi, wide int) api.Span {
	from := lo + r.IntN(hi-lo+1)
	return span(from, min(hi, from+r.IntN(wide+1)))
}

// some is a furrow whose offsets are no wider than so much, and lie within so much of a line.
func some(r *rand.Rand, stations, wide, around int) api.Furrow {
	var f api.Furrow
	slope, start := r.IntN(5)-2, r.IntN(9)-4
	for i := range stations {
		middle := min(max(start+slope*i, around-12), 12-around)
		f.Offsets = append(f.Offsets, spanOf(r, middle-around, middle+around, wide))
		f.Widths = append(f.Widths, spanOf(r, 1, 60, 9))
		f.Depths = append(f.Depths, spanOf(r, 0, 40, 9))
	}
	return f
}

// lists calls visit with each list of a number of each span, in lexicographic order. The list is the same one each time.
func lists(spans []api.Span, visit func(list []int)) {
	list := make([]int, len(spans))
	var fill func(i int)
	fill = func(i int) {
		if i == len(spans) {
			visit(list)
			return
		}
		for list[i] = spans[i].Lo; list[i] <= spans[i].Hi; list[i]++ {
			fill(i + 1)
		}
	}
	fill(0)
}

// bendsOf are the bends at the inner stations; the first and the last station have none.
func bendsOf(offsets []int) []int {
	bends := make([]int, len(offsets))
	for i := 1; i+1 < len(offsets); i++ {
		n := 2*offsets[i] - offsets[i-1] - offsets[i+1]
		bends[i] = max(n, -n)
	}
	return bends
}

func bendOf(offsets []int) int { return slices.Max(append(bendsOf(offsets), 0)) }

// worstOf is the set of the inner stations at which a furrow bends most.
func worstOf(offsets []int) int {
	worst, all := bendOf(offsets), 0
	for i, n := range bendsOf(offsets) {
		if n == worst && 0 < i && i < len(offsets)-1 {
			all |= 1 << i
		}
	}
	return all
}

// seen is what was seen in all truths.
type seen struct {
	bend        api.Span
	bends       []api.Span
	straightest []int
	surely, can int
}

func grow(s *api.Span, n int) { *s = span(min(s.Lo, n), max(s.Hi, n)) }

func look(f api.Furrow) seen {
	s := seen{bend: span(huge, 0), bends: slices.Repeat([]api.Span{span(huge, 0)}, len(f.Offsets)), surely: -1}
	lists(f.Offsets, func(offsets []int) {
		bends := bendsOf(offsets)
		n := bendOf(offsets)
		if n < s.bend.Lo {
			s.straightest = slices.Clone(offsets)
		}
		grow(&s.bend, n)
		for i, bend := range bends {
			grow(&s.bends[i], bend)
		}
		s.surely &= worstOf(offsets)
		s.can |= worstOf(offsets)
	})
	return s
}

// wrongOf lays the furrow anywhere where it bends no more than so much, and notes the stations that are not where rods told; it goes on with none that has more of these than the best one.
func wrongOf(f api.Furrow, most int) int {
	best := 1<<len(f.Offsets) - 1
	list := make([]int, len(f.Offsets))
	var fill func(i, wrong int)
	fill = func(i, wrong int) {
		many, least := bits.OnesCount(uint(wrong)), bits.OnesCount(uint(best))
		if many > least || bendOf(list[:i]) > most {
			return
		}
		if i == len(list) {
			if many < least || wrong < best {
				best = wrong
			}
			return
		}
		for n := -12; n <= 12; n++ {
			list[i] = n
			w := wrong
			if n < f.Offsets[i].Lo || n > f.Offsets[i].Hi {
				w |= 1 << i
			}
			fill(i+1, w)
		}
	}
	fill(0, 0)
	return best
}

// shallowOf looks at each depth that a station can have.
func shallowOf(f api.Furrow, least int) (surely, can int) {
	for i, s := range f.Depths {
		less := 0
		for n := s.Lo; n <= s.Hi; n++ {
			if n < least {
				less++
			}
		}
		if less > 0 {
			can |= 1 << i
		}
		if less == s.Hi-s.Lo+1 {
			surely |= 1 << i
		}
	}
	return surely, can
}

// soilOf adds up the least and the greatest product of all numbers of each station.
func soilOf(f api.Furrow) api.Span {
	var all api.Span
	for i := range f.Widths {
		here := span(huge, 0)
		lists([]api.Span{f.Widths[i], f.Depths[i]}, func(n []int) { grow(&here, n[0]*n[1]) })
		all = span(all.Lo+here.Lo, all.Hi+here.Hi)
	}
	return all
}
