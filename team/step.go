package team

import (
	"furrowworks/api"
	"furrowworks/soil"
)

// plot is a valid plot whose ground has a truth, with how much work each of its furrows is.
type plot struct {
	api.TeamPlot
	works [api.TeamSteps]api.Span
}

// look returns a valid plot with the work of its furrows; it panics if the ground has no truth.
func look(p api.TeamPlot) plot {
	// A plot without furrows must have a truth, too.
	_, _, e := soil.Dig(p.Ground)
	demand(e == api.OK, e)
	looked := plot{TeamPlot: p}
	for i, s := range p.Steps {
		if isRest(s) {
			continue
		}
		work, e := soil.Work(p.Ground, s.From, s.To)
		demand(e == api.OK, e)
		looked.works[i] = work
	}
	return looked
}

// step is what a team does at a plot.
type step interface {
	// behind returns the strength behind the step of horses that have some ahead of it.
	behind(strength int, h horses) int
}

// furrow is a step that takes strength.
type furrow struct {
	plot
	number int
}

func (f furrow) behind(strength int, h horses) int {
	return h.ploughed(strength, f.works[f.number])
}

// rest is a step that gives strength.
type rest struct {
	plot
	number int
}

func (r rest) behind(strength int, h horses) int {
	return h.rested(strength, minutes(r.Steps[r.number].Rest))
}

func (p plot) steps() []step {
	var list []step
	for i, s := range p.Steps {
		if isRest(s) {
			list = append(list, rest{p, i})
		} else {
			list = append(list, furrow{p, i})
		}
	}
	return list
}
