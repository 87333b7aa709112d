package open

import (
	"iter"
	"maps"
	"slices"

	"furrowworks/api"
)

// field is a field that is valid.
type field struct{ api.Field }

// rest returns a function that tells what so many furrows, so wide, leave of the plot for opening and finish.
func (f field) rest() func(furrows, width int) int {
	return func(furrows, width int) int {
		return f.Wide - furrows*width
	}
}

// openings returns the openings that leave a finish of the field, if so much is left for both.
func (f field) openings(rest int) api.Span {
	return overlap(f.Opening, api.Span{Lo: rest - f.Finish.Hi, Hi: rest - f.Finish.Lo})
}

// isFilledBy tells whether a plan fits the field.
func (f field) isFilledBy(p api.Plan) bool {
	if !contains(f.Furrow, p.Furrow) || !canTurn(p, f.Side) {
		return false
	}
	rest := f.rest()(furrows(p, f.Side), p.Furrow)
	return contains(f.openings(rest), p.Opening) && p == finished(p, p.Opening, rest)
}

// finished returns a plan with this opening, and a finish of all that it leaves of the rest.
func finished(p api.Plan, opening, rest int) api.Plan {
	p.Opening, p.Finish = opening, rest-opening
	return p
}

// laid yields all rounds and casts, with each width of a furrow, that a plot so wide may have room for.
func (f field) laid(wide int) iter.Seq[api.Plan] {
	return func(yield func(api.Plan) bool) {
	widths:
		for width := range all(f.Furrow) {
			for p := range turns(f.Side) {
				if gathered(p, f.Side)*width > wide {
					continue widths // all that follow have as many rounds at least
				}
				p.Furrow = width
				if !yield(p) {
					return
				}
			}
		}
	}
}

// plans yields the plans that fit the field; of those that are alike but for opening and finish, the one with the least opening.
func (f field) plans() iter.Seq[api.Plan] {
	rest := f.rest()
	return func(yield func(api.Plan) bool) {
		for p := range f.laid(f.Wide) {
			edges := rest(furrows(p, f.Side), p.Furrow)
			openings := f.openings(edges)
			if size(openings) > 0 && !yield(finished(p, openings.Lo, edges)) {
				return
			}
		}
	}
}

// count returns how many plans fit the field.
func (f field) count() int {
	n, rest, ways := 0, f.rest(), waysOf(f.Side)
	for width := range all(f.Furrow) {
		for many, turns := range ways {
			n += turns * size(f.openings(rest(many, width)))
		}
	}
	return n
}

// widths returns how wide the furrows of the plans that fit are.
func (f field) widths() []int {
	found := map[int]bool{}
	for p := range f.plans() {
		found[p.Furrow] = true
	}
	return slices.Sorted(maps.Keys(found))
}
