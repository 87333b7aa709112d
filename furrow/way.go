package furrow

// spot is a station that is asked: the offsets that a furrow can have there, and which bends suit if it is an inner one.
type spot struct {
	span
	suits func(bend int) bool
}

func atMost(most int) func(int) bool {
	return func(bend int) bool { return bend <= most }
}

func atLeast(least int) func(int) bool {
	return func(bend int) bool { return bend >= least }
}

// bendOf returns how much a furrow bends at an offset between two others.
func bendOf(before, here, behind int) int {
	n := 2*here - before - behind
	return max(n, -n)
}

// place is how far a way has come: how many stations it has passed, and the offsets of the last two of them (0 where there is none yet). What can come behind depends on nothing else.
type place struct {
	passed int
	pair   [2]int
}

func (p place) next(offset int) place {
	return place{p.passed + 1, [2]int{p.pair[1], offset}}
}

// lets tells whether a way can go on with an offset, by which the bend at the last station that it has passed is known.
func (p place) lets(spots []spot, offset int) bool {
	if p.passed < 2 {
		return true
	}
	return spots[p.passed-1].suits(bendOf(p.pair[0], p.pair[1], offset))
}

// way returns the first list of offsets, in lexicographic order, with which the bend at each inner station suits, and whether there is one.
func way(spots []spot) (offsets []int, ok bool) {
	offsets = make([]int, len(spots))
	// A place that was reached before is known to lead nowhere.
	reached := map[place]bool{}
	var goOn func(p place) bool
	goOn = func(p place) bool {
		if p.passed == len(spots) {
			return true
		}
		if reached[p] {
			return false
		}
		reached[p] = true
		found := false
	search:
		for offset := range spots[p.passed].all() {
			offsets[p.passed] = offset
			switch {
			case !p.lets(spots, offset):
				continue
			case goOn(p.next(offset)):
				found = true
				break search
			}
		}
		return found
	}
	ok = goOn(place{})
	return offsets, ok
}

func hasWay(spots []spot) bool {
	_, ok := way(spots)
	return ok
}
