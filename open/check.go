package open

import "furrowworks/api"

// told returns what find finds, or the error that it panics with.
func told[T any](find func() T) (found T, e api.Errno) {
	defer func() {
		if r := recover(); r != nil {
			e = reason(r)
		}
	}()
	return find(), api.OK
}

// reason returns the error that a panic stands for; one that nobody raised on purpose counts as a value that is not valid.
func reason(r any) api.Errno {
	if e, ok := r.(api.Errno); ok {
		return e
	}
	return api.ErrArg
}

// demand panics with an error unless something is so.
func demand(so bool, e api.Errno) {
	if !so {
		panic(e)
	}
}

func valid(f api.Field) bool {
	wide := 0 <= f.Wide && f.Wide <= api.OpenWide
	side := 1 <= f.Side && f.Side <= api.OpenSide
	return wide && side && within(f.Furrow, 1, api.OpenFurrow) && within(f.Opening, 0, api.OpenEdge) && within(f.Finish, 0, api.OpenEdge)
}
