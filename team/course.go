package team

import (
	"iter"

	"furrowworks/api"
)

// course is a team at a plot.
type course struct {
	api.TeamHorses
	plot
}

// strengths yields how many steps are done, from none to all, and the strength behind them, in a case.
func (c course) strengths(x extreme) iter.Seq2[int, int] {
	return func(yield func(done, strength int) bool) {
		h := horses{c.TeamHorses, x}
		strength := h.fresh()
		if !yield(0, strength) {
			return
		}
		for i, s := range c.steps() {
			strength = s.behind(strength, h)
			if !yield(i+1, strength) {
				return
			}
		}
	}
}

// outcome is whether a team fails, and at which step first.
type outcome struct {
	fails bool
	step  int
}

// outcomes returns how both cases end.
func (c course) outcomes() [2]outcome {
	var ends [2]outcome
cases:
	for i, x := range extremes() {
		for done, strength := range c.strengths(x) {
			if strength < 0 {
				ends[i] = outcome{true, done - 1}
				continue cases
			}
		}
	}
	return ends
}

// failure is the first step at which a team fails in some truth, and whether it fails by then in each truth.
type failure struct {
	step   int
	surely bool
}

// failure returns where the team fails, if it is not safe.
func (c course) failure() (f failure, some bool) {
	ends := c.outcomes()
	if !ends[worst].fails {
		return failure{}, false
	}
	// The best case fails no earlier than the worst one.
	return failure{ends[worst].step, ends[worst] == ends[best]}, true
}

func (c course) isSafe() bool { return !c.outcomes()[worst].fails }

// isSafeWith tells whether the team were safe if it had just this strength at first.
func (c course) isSafeWith(strength int) bool {
	c.Strength = api.Span{Lo: strength, Hi: strength}
	return c.isSafe()
}

// left returns the strength behind so many steps.
func (c course) left(steps int) api.Span {
	var ends [2]int
	for i, x := range extremes() {
		for done, strength := range c.strengths(x) {
			if done == steps {
				ends[i] = strength
			}
		}
	}
	return api.Span{Lo: ends[worst], Hi: ends[best]}
}
