package team_test

import (
	"math/bits"
	"math/rand/v2"
	"slices"

	"furrowworks/api"
)

// The oracle writes down all truths of small grounds and teams, and goes through each of them step by step, as the chapter tells of it, without any thought of a worst or a best one.

// truth is how hard each place truly is, and what the team truly has.
type truth struct {
	hard                 []int
	strength, loss, gain int
}

func in(n int, s api.Span) bool { return s.Lo <= n && n <= s.Hi }

// landsOf writes down the hardness of all places in each truth of a ground, or of most and one more of them.
func landsOf(g api.Ground, most int) [][]int {
	var lands [][]int
	var goOn func(land []int)
	goOn = func(land []int) {
		at := len(land)
		if at > g.Long {
			lands = append(lands, slices.Clone(land))
			return
		}
		from, to := 0, api.SoilHard
		if at > 0 {
			from, to = max(0, land[at-1]-g.Rise), min(api.SoilHard, land[at-1]+g.Rise)
		}
		for _, p := range g.Pits {
			if p.At == at {
				from, to = max(from, p.Hard.Lo), min(to, p.Hard.Hi)
			}
		}
		for n := from; n <= to && len(lands) <= most; n++ {
			goOn(append(land, n))
		}
	}
	goOn(nil)
	return lands
}

func truthsOf(h api.TeamHorses, lands [][]int) []truth {
	var all []truth
	for _, land := range lands {
		for strength := h.Strength.Lo; strength <= h.Strength.Hi; strength++ {
			for loss := h.Loss.Lo; loss <= h.Loss.Hi; loss++ {
				for gain := h.Gain.Lo; gain <= h.Gain.Hi; gain++ {
					all = append(all, truth{land, strength, loss, gain})
				}
			}
		}
	}
	return all
}

// way is the strength at first, and behind each step, in a truth.
func (t truth) way(full int, steps []api.TeamStep) []int {
	now := t.strength
	way := []int{now}
	for _, s := range steps {
		if s.Rest > 0 {
			now += t.gain * s.Rest
			if now > full {
				now = full
			}
		} else {
			hundredths := 0
			for at := s.From; at <= s.To; at++ {
				hundredths += t.loss * t.hard[at]
			}
			for ; hundredths > 0; hundredths -= 100 {
				now--
			}
		}
		way = append(way, now)
	}
	return way
}

// failsAt is the first step at which the team fails in a truth, or -1.
func (t truth) failsAt(full int, steps []api.TeamStep) int {
	for i, n := range t.way(full, steps) {
		if n < 0 {
			return i - 1
		}
	}
	return -1
}

func sign(is bool) int {
	if is {
		return 1
	}
	return 0
}

func safeIn(truths []truth, full int, steps []api.TeamStep) bool {
	return !slices.ContainsFunc(truths, func(t truth) bool { return t.failsAt(full, steps) >= 0 })
}

func comesOf(truths []truth, full int, steps []api.TeamStep) int {
	through := 0
	for _, t := range truths {
		through += 1 - sign(t.failsAt(full, steps) >= 0)
	}
	switch through {
	case len(truths):
		return 2
	case 0:
		return 0
	}
	return 1
}

func leftOf(truths []truth, full int, steps []api.TeamStep) api.Span {
	var ends []int
	for _, t := range truths {
		way := t.way(full, steps)
		ends = append(ends, way[len(way)-1])
	}
	return span(slices.Min(ends), slices.Max(ends))
}

// failsOf is the first step at which some truth fails, and whether each truth has failed by then.
func failsOf(truths []truth, full int, steps []api.TeamStep) answer {
	for i := range steps {
		failed := 0
		for _, t := range truths {
			failed += sign(t.failsAt(full, steps[:i+1]) >= 0)
		}
		if failed > 0 {
			return numbers(i, sign(failed == len(truths)))
		}
	}
	return none(api.ErrNone, 2)
}

// lists yields all lists of so many numbers that are so much together, in lexicographic order.
func lists(size, sum int, try func(list []int) bool) bool {
	var goOn func(list []int, left int) bool
	goOn = func(list []int, left int) bool {
		if len(list) == size {
			return left == 0 && try(list)
		}
		for n := 0; n <= left; n++ {
			if goOn(append(list, n), left-n) {
				return true
			}
		}
		return false
	}
	return goOn(make([]int, 0, size), sum)
}

// rested are the steps with a rest ahead of each one for which there are minutes.
func rested(steps []api.TeamStep, minutes []int) []api.TeamStep {
	var all []api.TeamStep
	for i, s := range steps {
		if minutes[i] > 0 {
			all = append(all, rest(minutes[i]))
		}
		all = append(all, s)
	}
	return all
}

// restsOf tries all lists of minutes, the ones with the fewest minutes together first; more than Full ahead of a furrow is never of use.
func restsOf(truths []truth, full int, steps []api.TeamStep) answer {
	for sum := range full*len(steps) + 1 {
		var found []int
		if lists(len(steps), sum, func(list []int) bool {
			found = slices.Clone(list)
			return safeIn(truths, full, rested(steps, list))
		}) {
			return numbers(found...)
		}
	}
	return none(api.ErrRefuse, 0)
}

func leastOf(h api.TeamHorses, lands [][]int, steps []api.TeamStep) answer {
	for n := range h.Full + 1 {
		if safeIn(truthsOf(with(h, n, n), lands), h.Full, steps) {
			return numbers(n)
		}
	}
	return none(api.ErrRefuse, 1)
}

// sendOf is the first of all lists of different teams that are safe at some plots; safe tells for each plot which teams are.
func sendOf(safe [][]bool, teams int) answer {
	var found []int
	var goOn func(list []int) bool
	goOn = func(list []int) bool {
		if len(list) == len(safe) {
			for i, a := range list {
				if !safe[i][a] || slices.Contains(list[:i], a) {
					return false
				}
			}
			found = slices.Clone(list)
			return true
		}
		for team := range teams {
			if goOn(append(list, team)) {
				return true
			}
		}
		return false
	}
	if !goOn(nil) {
		return none(api.ErrRefuse, 0)
	}
	return numbers(found...)
}

// shortOf tries all sets of plots, the ones of the fewest first, and asks how many teams are safe at some of them: that there is a set with too few teams is just what keeps them from being sent (Hall).
func shortOf(safe [][]bool, teams int) answer {
	for size := 1; size <= len(safe); size++ {
		for set := range 1 << len(safe) {
			if bits.OnesCount(uint(set)) == size && teamsOf(safe, teams, set) < size {
				return numbers(set)
			}
		}
	}
	return none(api.ErrNone, 1)
}

// teamsOf is how many teams are safe at some plot of a set.
func teamsOf(safe [][]bool, teams, set int) int {
	n := 0
	for team := range teams {
		some := false
		for plot := range safe {
			some = some || set>>plot&1 == 1 && safe[plot][team]
		}
		n += sign(some)
	}
	return n
}

// dice are numbers that are the same in each run.
func dice(seed uint64) *rand.Rand { return rand.New(rand.NewPCG(seed, 6)) }

// around is a span with a number in it.
func around(r *rand.Rand, n, far, most int) api.Span {
	return span(max(0, n-r.IntN(far+1)), min(most, n+r.IntN(far+1)))
}

// nature is a ground, and how hard it truly is.
func nature(r *rand.Rand, long, rise, far int) (api.Ground, []int) {
	g := api.Ground{Long: r.IntN(long + 1), Rise: r.IntN(rise + 1), Change: r.IntN(api.SoilParts + 1)}
	hard := r.IntN(300)
	if r.IntN(8) == 0 {
		// Here bounds of all ground matter.
		hard = r.IntN(2) * api.SoilHard
	}
	var land []int
	for at := range g.Long + 1 {
		land = append(land, hard)
		if len(g.Pits) < api.SoilPits && (at == 0 || r.IntN(3) > 0) {
			s := around(r, hard, far, api.SoilHard)
			g.Pits = append(g.Pits, pit(at, s.Lo, s.Hi))
		}
		hard = min(api.SoilHard, max(0, hard-g.Rise+r.IntN(2*g.Rise+1)))
	}
	return g, land
}

// steps are some steps on a ground; without rests if most is 0.
func steps(r *rand.Rand, long, size, most int) []api.TeamStep {
	var all []api.TeamStep
	for range size {
		if most > 0 && r.IntN(3) == 0 {
			all = append(all, rest(1+r.IntN(most)))
			continue
		}
		from := r.IntN(long + 1)
		all = append(all, turn(from, from+r.IntN(long-from+1)))
	}
	return all
}
