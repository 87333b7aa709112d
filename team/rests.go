package team

import (
	"sort"

	"furrowworks/api"
)

// least returns the least number from 0 to most that suits, and whether there is one. What suits must suit with each greater number, too.
func least[N ~int](most N, suits func(n N) bool) (N, bool) {
	n := sort.Search(int(most)+1, func(n int) bool { return suits(N(n)) })
	return N(n), n <= int(most)
}

// pause is a rest ahead of a step, of horses that have some strength left.
type pause struct {
	horses
	step
	strength int
}

// behindBoth returns the strength behind a rest of so many minutes, and the step.
func (p pause) behindBoth(m minutes) int {
	return p.behind(p.rested(p.strength, m), p.horses)
}

func (p pause) isEnough(m minutes) bool { return p.behindBoth(m) >= 0 }

// rests returns how long the team rests ahead of each step. Each time it is as short as this step allows: a rest gives later at least as much as earlier, because less is lost at Full, so this list has the fewest minutes, and is the first one of those that have.
func (c course) rests() []int {
	h := horses{c.TeamHorses, extremes()[worst]}
	var list []int
	strength := h.fresh()
	for _, s := range c.steps() {
		p := pause{h, s, strength}
		// A minute gives 1 at least, or nothing at all: more minutes than Full give no more.
		m, ok := least(minutes(h.Full), p.isEnough)
		demand(ok, api.ErrRefuse)
		list = append(list, int(m))
		strength = p.behindBoth(m)
	}
	return list
}
