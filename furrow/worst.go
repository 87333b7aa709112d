package furrow

// findings are the set of the stations of which something is so in each truth, and that of those of which it is so in some.
type findings struct{ surely, can int }

// note adds a station to the sets in which it is.
func (f *findings) note(station int, surely, can bool) {
	if surely {
		f.surely |= 1 << station
	}
	if can {
		f.can |= 1 << station
	}
}

// worst finds where the furrow bends most.
func (c course) worst() findings {
	var f findings
	for station := range c.inner() {
		f.note(station, !c.canBeOutdone(station), c.canLead(station))
	}
	return f
}

// canLead tells whether in some truth the furrow bends nowhere more than at a station.
func (c course) canLead(station int) bool {
	_, ok := first(c.bendAt(station).all(), func(bend int) bool {
		spots := c.asked(atMost(bend))
		spots[station].suits = atLeast(bend)
		return hasWay(spots)
	})
	return ok
}

// canBeOutdone tells whether in some truth the furrow bends more somewhere else than at a station.
func (c course) canBeOutdone(station int) bool {
	_, ok := first(c.inner(), func(other int) bool {
		return other != station && c.canBeLess(station, other)
	})
	return ok
}

// canBeLess tells whether in some truth the furrow bends less at a station than at another one.
func (c course) canBeLess(station, other int) bool {
	_, ok := first(c.bendAt(station).all(), func(bend int) bool {
		spots := c.asked(atLeast(0))
		spots[station].suits = atMost(bend)
		spots[other].suits = atLeast(bend + 1)
		return hasWay(spots)
	})
	return ok
}
