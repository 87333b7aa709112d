package team

import (
	"math/bits"
	"slices"

	"furrowworks/api"
)

// pair is a team at a plot.
type pair struct{ team, plot int }

// fleet is how many teams and plots there are, and who is safe where.
type fleet struct {
	teams, plots int
	safe         map[pair]bool
}

// muster returns who is safe where; it panics if teams or plots have an error.
func muster(teams []api.TeamHorses, plots []api.TeamPlot) fleet {
	demand(len(teams) <= api.TeamTeams && len(plots) <= api.TeamPlots, api.ErrLong)
	demand(all(teams, validTeam) && all(plots, validPlot), api.ErrArg)
	f := fleet{len(teams), len(plots), map[pair]bool{}}
	for i, p := range plots {
		looked := look(p)
		for j, t := range teams {
			f.safe[pair{j, i}] = course{t, looked}.isSafe()
		}
	}
	return f
}

// together returns teams and more of them.
func together(teams []int, more ...int) []int {
	return slices.Concat(teams, more)
}

// send returns the first list of different teams that are safe at these plots, and whether there is one.
func (f fleet) send(plots []int) (sent []int, ok bool) {
	var goOn func(away []int) bool
	goOn = func(away []int) bool {
		if len(away) == len(plots) {
			sent = away
			return true
		}
		next := plots[len(away)]
		for team := range f.teams {
			if f.safe[pair{team, next}] && !slices.Contains(away, team) && goOn(together(away, team)) {
				return true
			}
		}
		return false
	}
	ok = goOn(nil)
	return sent, ok
}

func (f fleet) sendAll() ([]int, bool) {
	return f.send(elements(f.everywhere()))
}

// everywhere returns the set of all plots.
func (f fleet) everywhere() int { return 1<<f.plots - 1 }

// short returns the first set of the fewest plots to which no teams can be sent, and whether there is one.
func (f fleet) short() (short int, some bool) {
	for set := 1; set <= f.everywhere(); set++ {
		if some && bits.OnesCount(uint(set)) >= bits.OnesCount(uint(short)) {
			continue
		}
		if _, ok := f.send(elements(set)); !ok {
			short, some = set, true
		}
	}
	return short, some
}

// elements returns what is in a set, from the least number on.
func elements(set int) []int {
	var list []int
	for rest := uint(set); rest != 0; rest &= rest - 1 {
		list = append(list, bits.TrailingZeros(rest))
	}
	return list
}
