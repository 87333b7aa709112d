package team

import (
	"slices"

	"furrowworks/api"
	"furrowworks/soil"
)

// told returns what find finds, or the error that it panics with.
func told[T any](find func() T) (found T, e api.Errno) {
	defer func() {
		if r := recover(); r != nil {
			e = reason(r)
		}
	}()
	return find(), api.OK
}

// reason returns the error that a panic stands for; one that nobody raised on purpose counts as a value that is not valid.
func reason(r any) api.Errno {
	if e, ok := r.(api.Errno); ok {
		return e
	}
	return api.ErrArg
}

// demand panics with an error unless something is so.
func demand(so bool, e api.Errno) {
	if !so {
		panic(e)
	}
}

func validTeam(t api.TeamHorses) bool {
	return upTo(t.Full, api.TeamStrength) && within(t.Strength, t.Full) && within(t.Loss, api.TeamLoss) && within(t.Gain, api.TeamGain)
}

func validPlot(p api.TeamPlot) bool {
	if _, _, e := soil.Dig(p.Ground); e == api.ErrArg {
		return false
	}
	return len(p.Steps) <= api.TeamSteps && all(p.Steps, func(s api.TeamStep) bool { return validStep(s, p.Ground.Long) })
}

// validStep tells whether a step on ground that is so long is valid.
func validStep(s api.TeamStep, long int) bool {
	if s.Rest != 0 {
		return upTo(s.Rest, api.TeamRest)
	}
	return 0 <= s.From && s.From <= s.To && s.To <= long
}

func hasRest(p api.TeamPlot) bool {
	return slices.ContainsFunc(p.Steps, isRest)
}

func isRest(s api.TeamStep) bool { return s.Rest != 0 }

// all tells whether something is so of each element of a list.
func all[T any](list []T, is func(T) bool) bool {
	return !slices.ContainsFunc(list, func(x T) bool { return !is(x) })
}

// within tells whether a span is valid, and within 0 to most.
func within(s api.Span, most int) bool {
	return 0 <= s.Lo && s.Lo <= s.Hi && s.Hi <= most
}

func upTo(n, most int) bool {
	return 0 <= n && n <= most
}
