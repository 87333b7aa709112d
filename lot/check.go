package lot

import "furrowworks/api"

// told returns what find finds, or the error that it panics with.
func told[T any](find func() T) (found T, e api.Errno) {
	defer func() {
		if r := recover(); r != nil {
			e = reason(r)
		}
	}()
	return find(), api.OK
}

// reason returns the error that a panic stands for; one that nobody raised on purpose counts as a value that is not valid.
func reason(r any) api.Errno {
	if e, ok := r.(api.Errno); ok {
		return e
	}
	return api.ErrArg
}

// check panics unless the lots are valid, and the numbers are some of their ploughmen, or of their plots.
func check(l api.Lots, numbers ...int) {
	if !valid(l) {
		panic(api.ErrArg)
	}
	for _, n := range numbers {
		if n < 0 || n >= len(l.Men) {
			panic(api.ErrRange)
		}
	}
}

// checkDraw panics unless the lots are valid, and the draw is one of theirs, lawful or not.
func checkDraw(l api.Lots, draw []int) {
	check(l, draw...)
	came := 0
	for _, man := range draw {
		came |= 1 << man
	}
	if len(draw) != len(l.Men) || came != everybody(l) {
		panic(api.ErrRange)
	}
}

func valid(l api.Lots) bool {
	if len(l.Men) < 1 || len(l.Men) > api.LotMen {
		return false
	}
	for _, m := range l.Men {
		if m.Club < 0 || m.Club > api.LotClubs {
			return false
		}
	}
	// There are as many plots as ploughmen.
	return l.Worst >= 0 && l.Worst <= everybody(l)
}

// everybody returns the set of all ploughmen.
func everybody(l api.Lots) int {
	return 1<<len(l.Men) - 1
}
