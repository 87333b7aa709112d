package soil

import "furrowworks/api"

// told returns what find finds, or the error that it panics with.
func told[T any](find func() T) (found T, e api.Errno) {
	defer func() {
		if r := recover(); r != nil {
			e = reason(r)
		}
	}()
	return find(), api.OK
}

// reason returns the error that a panic stands for; one that nobody raised on purpose counts as a value that is not valid.
func reason(r any) api.Errno {
	if e, ok := r.(api.Errno); ok {
		return e
	}
	return api.ErrArg
}

// check panics unless the ground is valid, and the numbers are some of its places.
func check(g api.Ground, places ...int) {
	if !valid(g) {
		panic(api.ErrArg)
	}
	for _, at := range places {
		if !upTo(at, g.Long) {
			panic(api.ErrRange)
		}
	}
}

func valid(g api.Ground) bool {
	if !upTo(g.Long, api.SoilLong) || !upTo(g.Rise, api.SoilHard) || !upTo(g.Change, api.SoilParts) {
		return false
	}
	if len(g.Pits) > api.SoilPits {
		return false
	}
	before := -1
	for _, p := range g.Pits {
		if p.At <= before || p.At > g.Long || !validPit(p) {
			return false
		}
		before = p.At
	}
	return true
}

// validPit tells whether what was read in a pit is valid, wherever the pit is.
func validPit(p api.Pit) bool {
	return within(p.Hard, api.SoilHard) && within(p.Sand, api.SoilParts) && within(p.Silt, api.SoilParts) && within(p.Clay, api.SoilParts)
}

// within tells whether a span is valid, and within 0 to most.
func within(s api.Span, most int) bool {
	return 0 <= s.Lo && s.Lo <= s.Hi && s.Hi <= most
}

func upTo(n, most int) bool {
	return 0 <= n && n <= most
}
