package furrow

import (
	"iter"
	"slices"

	"furrowworks/api"
)

// course is the offsets that a furrow can have, station by station.
type course []span

func courseOf(f api.Furrow) course {
	var c course
	for _, s := range f.Offsets {
		c = append(c, span{s})
	}
	return c
}

func (c course) isInner(station int) bool {
	return 0 < station && station < len(c)-1
}

// inner yields the inner stations.
func (c course) inner() iter.Seq[int] {
	return between(1, len(c)-2).all()
}

// asked returns the stations of a course, each of which is asked the same.
func (c course) asked(suits func(bend int) bool) []spot {
	var all []spot
	for _, s := range c {
		all = append(all, spot{s, suits})
	}
	return all
}

// bendAt returns from where to where the bend at an inner station is.
func (c course) bendAt(station int) span {
	var bends []int
	for before := range c[station-1].all() {
		for here := range c[station].all() {
			for behind := range c[station+1].all() {
				bends = append(bends, bendOf(before, here, behind))
			}
		}
	}
	return between(slices.Min(bends), slices.Max(bends))
}

// bounds returns from where to where the bend of the furrow would be if that at one station had nothing to do with that at another one. Its Hi is right in any case, because the greatest bend needs one station alone.
func (c course) bounds() span {
	var bounds span
	for station := range c.inner() {
		s := c.bendAt(station)
		bounds = between(max(bounds.Lo, s.Lo), max(bounds.Hi, s.Hi))
	}
	return bounds
}

// bend returns from where to where the bend of the furrow is.
func (c course) bend() span {
	bounds := c.bounds()
	least, _ := first(bounds.all(), func(most int) bool {
		return hasWay(c.asked(atMost(most)))
	})
	return between(least, bounds.Hi)
}

// straightest returns the first offsets with which the furrow bends least.
func (c course) straightest() []int {
	offsets, _ := way(c.asked(atMost(c.bend().Lo)))
	return offsets
}
