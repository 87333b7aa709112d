package furrow

import "furrowworks/api"

// told returns what find finds, or the error that it panics with.
func told[T any](find func() T) (found T, e api.Errno) {
	defer func() {
		if r := recover(); r != nil {
			e = reason(r)
		}
	}()
	return find(), api.OK
}

// reason returns the error that a panic stands for; one that nobody raised on purpose counts as a value that is not valid.
func reason(r any) api.Errno {
	if e, ok := r.(api.Errno); ok {
		return e
	}
	return api.ErrArg
}

// demand panics with an error unless something is so.
func demand(so bool, e api.Errno) {
	if !so {
		panic(e)
	}
}

func valid(f api.Furrow) bool {
	n := len(f.Offsets)
	if n > api.FurrowStations || len(f.Widths) != n || len(f.Depths) != n {
		return false
	}
	for i := range n {
		offset, width, depth := span{f.Offsets[i]}, span{f.Widths[i]}, span{f.Depths[i]}
		if !offset.within(-api.FurrowReach, api.FurrowReach) || offset.Hi-offset.Lo > api.FurrowWide {
			return false
		}
		if !width.within(1, api.FurrowWidth) || !depth.within(0, api.FurrowDepth) {
			return false
		}
	}
	return true
}
