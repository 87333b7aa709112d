package peg

import "furrowworks/api"

// told returns what find finds, or the error that it panics with.
func told[T any](find func() T) (found T, e api.Errno) {
	defer func() {
		if r := recover(); r != nil {
			e = reason(r)
		}
	}()
	return find(), api.OK
}

// reason returns the error that a panic stands for; one that nobody raised on purpose counts as a value that is not valid.
func reason(r any) api.Errno {
	if e, ok := r.(api.Errno); ok {
		return e
	}
	return api.ErrArg
}

// check panics unless the pegs are valid, and the numbers are some of theirs.
func check(p api.Pegs, pegs ...int) {
	if !valid(p) {
		panic(api.ErrArg)
	}
	for _, n := range pegs {
		if !isPeg(p, n) {
			panic(api.ErrRange)
		}
	}
}

func valid(p api.Pegs) bool {
	if p.Side < 0 || p.Side > api.PegSide || len(p.Posts) > api.PegPosts || len(p.Lengths) > api.PegLengths {
		return false
	}
	for _, post := range p.Posts {
		if !narrow(post.X, p.Side) || !narrow(post.Y, p.Side) {
			return false
		}
	}
	for _, l := range p.Lengths {
		if !isPeg(p, l.First) || !isPeg(p, l.Second) || l.First == l.Second || !within(l.Links, api.PegLinks) {
			return false
		}
	}
	return true
}

// narrow tells whether a span of a post is one, for a field with this side.
func narrow(s api.Span, side int) bool {
	return within(s, side) && s.Hi-s.Lo <= api.PegWide
}

// within tells whether a span is valid, and within 0 to most.
func within(s api.Span, most int) bool {
	return 0 <= s.Lo && s.Lo <= s.Hi && s.Hi <= most
}

func isPeg(p api.Pegs, n int) bool {
	return 0 <= n && n < len(p.Posts)
}
