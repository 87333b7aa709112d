package team

import "furrowworks/api"

// extreme is a case: which end it picks of a span of what helps a team, and which one of what hinders it.
type extreme struct{ helps, hinders func(s api.Span) int }

// The numbers of both cases.
const (
	worst = iota
	best
)

// extremes returns the worst case and the best one. In the one all ground is as hard as it can be, in the other one as soft; as both are truths of layer 2, both cases are truths, and no truth leaves less strength than the worst case, or more than the best one.
func extremes() [2]extreme {
	lo := func(s api.Span) int { return s.Lo }
	hi := func(s api.Span) int { return s.Hi }
	return [...]extreme{worst: {helps: lo, hinders: hi}, best: {helps: hi, hinders: lo}}
}

// horses are a team as it is in a case.
type horses struct {
	api.TeamHorses
	extreme
}

// minutes are how long a team rests.
type minutes int

// fresh returns the strength at first.
func (h horses) fresh() int { return h.helps(h.Strength) }

// ploughed returns the strength behind a furrow of so much work.
func (h horses) ploughed(strength int, work api.Span) int {
	return strength - up(h.hinders(h.Loss)*h.hinders(work), 100)
}

// rested returns the strength behind a rest.
func (h horses) rested(strength int, m minutes) int {
	return min(strength+h.helps(h.Gain)*int(m), h.Full)
}

// up returns a quotient of numbers that are not below 0, rounded up.
func up(a, b int) int {
	return (a + b - 1) / b
}
