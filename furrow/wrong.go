package furrow

import (
	"iter"
	"math/bits"

	"furrowworks/api"
)

// claim is that a furrow bends by so much at most.
type claim struct {
	course
	most int
}

// savedBy tells whether the claim can be so if the stations of a set are wrong.
func (c claim) savedBy(set int) bool {
	return hasWay(c.freed(set).asked(atMost(c.most)))
}

// freed returns a course of which the stations of a set are wrong.
func (c course) freed(set int) course {
	freed := make(course, len(c))
	copy(freed, c)
	for station := range freed {
		if set&(1<<station) != 0 {
			freed[station] = between(-api.FurrowReach, api.FurrowReach)
		}
	}
	return freed
}

// sets yields all sets of so many stations: those of fewer stations first, and of as many the lesser numbers.
func sets(stations int) iter.Seq[int] {
	return func(yield func(int) bool) {
		for size := range stations + 1 {
			for set := range 1 << stations {
				if bits.OnesCount(uint(set)) == size && !yield(set) {
					return
				}
			}
		}
	}
}
