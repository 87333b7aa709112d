package open

import "furrowworks/api"

// mm is how many millimetres a centimetre has.
const mm = 10

// finish returns how wide the finish of a plan will be, in millimetres, if each furrow is wider than planned by a number of by.
func (f field) finish(p api.Plan, by api.Span) api.Span {
	wider := times(furrows(p, f.Side), by)
	return api.Span{Lo: mm*p.Finish - wider.Hi, Hi: mm*p.Finish - wider.Lo}
}

// aim returns how wide the furrows that are not done can be, in millimetres, if the finish is to be one of the field's; the span is empty if they cannot.
func (f field) aim(p api.Plan, done, used int) api.Span {
	open, rest := furrows(p, f.Side)-done, mm*(f.Wide-p.Opening)-used
	finish := times(mm, f.Finish)
	return overlap(times(mm, f.Furrow), api.Span{Lo: up(rest-finish.Hi, open), Hi: down(rest-finish.Lo, open)})
}
