package open_test

import (
	"math/rand/v2"
	"slices"

	"furrowworks/api"
)

// The oracle tries all numbers that a plan can have, one after the other, with a finish of all that is left then, and adds up how wide all of it is.

func dice(seed uint64) *rand.Rand { return rand.New(rand.NewPCG(seed, seed)) }

// spanOf is a span within two numbers that is no wider than so much.
func spanOf(r *rand.Rand, lo, hi, wide int) api.Span {
	from := lo + r.IntN(hi-lo+1)
	return span(from, min(hi, from+r.IntN(wide+1)))
}

// some is a field that is no wider than so much, whose spans are no wider than so much.
func some(r *rand.Rand, widest, spread int) api.Field {
	wide := r.IntN(widest + 1)
	edge := min(120, wide/2)
	return api.Field{
		Wide:    wide,
		Furrow:  spanOf(r, 1, 60, spread),
		Side:    1 + r.IntN(4),
		Opening: spanOf(r, 0, edge, spread),
		Finish:  spanOf(r, 0, edge, spread),
	}
}

func contains(s api.Span, n int) bool { return s.Lo <= n && n <= s.Hi }

// turnedOf is how many furrows a plan has.
func turnedOf(f api.Field, p api.Plan) int { return 2*f.Side*p.Rounds + p.Left + p.Right }

// fitsOf asks all that a plan must be; no plot has room for 2001 rounds.
func fitsOf(f api.Field, p api.Plan) bool {
	if p.Rounds < 0 || p.Rounds > 2000 || !contains(span(0, 6), p.Left) || !contains(span(0, 6), p.Right) {
		return false
	}
	if p.Left-p.Right > f.Side || p.Right-p.Left > f.Side {
		return false
	}
	if !contains(f.Opening, p.Opening) || !contains(f.Furrow, p.Furrow) || !contains(f.Finish, p.Finish) {
		return false
	}
	return p.Opening+p.Finish+turnedOf(f, p)*p.Furrow == f.Wide
}

// passesOf turns one furrow after the other.
func passesOf(f api.Field, p api.Plan) int {
	passes := 0
	for range p.Rounds {
		passes += 2
	}
	for _, cast := range []int{p.Left, p.Right} {
		for ; cast > 0; cast -= f.Side {
			passes++
		}
	}
	return passes
}

// castsOf calls visit with all rounds, casts and furrows that are no wider than so much together.
func castsOf(f api.Field, wide int, visit func(p api.Plan)) {
	for furrow := f.Furrow.Lo; furrow <= f.Furrow.Hi; furrow++ {
		for rounds := 0; 2*f.Side*rounds*furrow <= wide; rounds++ {
			for left := 0; left <= 6; left++ {
				for right := 0; right <= 6; right++ {
					p := plan(0, rounds, left, right, furrow, 0)
					if max(left-right, right-left) <= f.Side && turnedOf(f, p)*furrow <= wide {
						visit(p)
					}
				}
			}
		}
	}
}

// plansOf are all plans that fit a field.
func plansOf(f api.Field) []api.Plan {
	var plans []api.Plan
	castsOf(f, f.Wide, func(p api.Plan) {
		for p.Opening = f.Opening.Lo; p.Opening <= f.Opening.Hi; p.Opening++ {
			p.Finish = f.Wide - turnedOf(f, p)*p.Furrow - p.Opening
			if fitsOf(f, p) {
				plans = append(plans, p)
			}
		}
	})
	return plans
}

// worth is a plan as a list that is less for a better plan.
func worth(f api.Field, p api.Plan) []int {
	return []int{passesOf(f, p), -p.Rounds, p.Opening, p.Left, p.Right, p.Furrow}
}

// bestOf is the best of some plans.
func bestOf(f api.Field, plans []api.Plan) api.Plan {
	return slices.MinFunc(plans, func(a, b api.Plan) int { return slices.Compare(worth(f, a), worth(f, b)) })
}

// sharedOf is how many of the numbers by which plans are compared the best plan shares with the next one.
func sharedOf(f api.Field, plans []api.Plan) int {
	if len(plans) == 1 {
		return 0
	}
	best := bestOf(f, plans)
	others := slices.DeleteFunc(slices.Clone(plans), func(p api.Plan) bool { return p == best })
	a, b := worth(f, best), worth(f, bestOf(f, others))
	shared := 0
	for a[shared] == b[shared] {
		shared++
	}
	return shared
}

func widthsOf(plans []api.Plan) []int {
	var widths []int
	for _, p := range plans {
		widths = append(widths, p.Furrow)
	}
	slices.Sort(widths)
	return slices.Compact(widths)
}

// filledOf tells of each width up to 2000 whether some plan fits it.
func filledOf(f api.Field) [2001]bool {
	turned := map[int]bool{}
	castsOf(f, 2000, func(p api.Plan) { turned[turnedOf(f, p)*p.Furrow] = true })
	var filled [2001]bool
	for n := range turned {
		for opening := f.Opening.Lo; opening <= f.Opening.Hi; opening++ {
			for finish := f.Finish.Lo; finish <= f.Finish.Hi; finish++ {
				if wide := n + opening + finish; wide <= 2000 {
					filled[wide] = true
				}
			}
		}
	}
	return filled
}

func nearestOf(f api.Field) (less, more int) {
	less, more = -1, -1
	for wide, is := range filledOf(f) {
		if is && wide <= f.Wide {
			less = wide
		}
		if is && wide >= f.Wide && more < 0 {
			more = wide
		}
	}
	return less, more
}

// leftOf turns one furrow after the other, each by each number wider, and looks at all that is left then.
func leftOf(f api.Field, p api.Plan, by api.Span) api.Span {
	left := map[int]bool{10 * (f.Wide - p.Opening): true}
	for range turnedOf(f, p) {
		next := map[int]bool{}
		for n := range left {
			for wider := by.Lo; wider <= by.Hi; wider++ {
				next[n-10*p.Furrow-wider] = true
			}
		}
		left = next
	}
	s := span(huge, -huge)
	for n := range left {
		s = span(min(s.Lo, n), max(s.Hi, n))
	}
	return s
}

// aimOf tries each width.
func aimOf(f api.Field, p api.Plan, done, used int) answer {
	var widths []int
	for width := 10 * f.Furrow.Lo; width <= 10*f.Furrow.Hi; width++ {
		finish := 10*(f.Wide-p.Opening) - used - (turnedOf(f, p)-done)*width
		if 10*f.Finish.Lo <= finish && finish <= 10*f.Finish.Hi {
			widths = append(widths, width)
		}
	}
	if widths == nil {
		return none(api.ErrNone, 2)
	}
	return numbers(widths[0], widths[len(widths)-1])
}
