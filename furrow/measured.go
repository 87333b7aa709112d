package furrow

import "furrowworks/api"

// measured is something that rods told at each station.
type measured interface {
	at(station int) span
}

// depths are how deep a furrow is.
type depths struct{ api.Furrow }

func (d depths) at(station int) span {
	return span{d.Depths[station]}
}

// products are how wide a furrow is, times how deep.
type products struct{ api.Furrow }

func (p products) at(station int) span {
	return span{p.Widths[station]}.times(span{p.Depths[station]})
}

// along returns what was measured at each of so many stations.
func along(m measured, stations int) []span {
	var all []span
	for station := range stations {
		all = append(all, m.at(station))
	}
	return all
}

// shallow finds where something is less than it should be.
func shallow(spans []span, least int) findings {
	var f findings
	for station, s := range spans {
		f.note(station, s.Hi < least, s.Lo < least)
	}
	return f
}
