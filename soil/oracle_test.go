package soil_test

import (
	"math/rand/v2"
	"slices"

	"furrowworks/api"
)

// The oracle goes along the ground with sets of single soils, and of single hardnesses, as the chapter tells of a truth, without any thought of spans.

// earth is the three parts of a soil.
type earth struct{ sand, silt, clay int }

// earths returns all soils.
func earths() []earth {
	var all []earth
	for sand := range api.SoilParts + 1 {
		for silt := range api.SoilParts - sand + 1 {
			all = append(all, earth{sand, silt, api.SoilParts - sand - silt})
		}
	}
	return all
}

func numbersTo(most int) []int {
	var all []int
	for n := range most + 1 {
		all = append(all, n)
	}
	return all
}

func in(n int, s api.Span) bool { return s.Lo <= n && n <= s.Hi }

func near(a, b, by int) bool { return max(a-b, b-a) <= by }

func (x earth) near(y earth, by int) bool {
	return near(x.sand, y.sand, by) && near(x.silt, y.silt, by) && near(x.clay, y.clay, by)
}

func (x earth) readAs(p api.Pit) bool {
	return in(x.sand, p.Sand) && in(x.silt, p.Silt) && in(x.clay, p.Clay)
}

func (x earth) class() int {
	switch {
	case x.clay >= 8:
		return 3
	case x.sand >= 14:
		return 1
	case x.silt >= 12:
		return 2
	}
	return 0
}

// chain returns what each place can have: what is allowed there, and can be come to from both ends by steps.
func chain[T any](long int, all []T, allowed func(at int, x T) bool, step func(a, b T) bool) [][]T {
	way := func(order []int) [][]bool {
		reached := make([][]bool, long+1)
		var before []bool
		for _, at := range order {
			here := make([]bool, len(all))
			for i, x := range all {
				if !allowed(at, x) {
					continue
				}
				here[i] = before == nil
				for j := range before {
					if before[j] && step(all[j], x) {
						here[i] = true
						break
					}
				}
			}
			reached[at], before = here, here
		}
		return reached
	}
	order := numbersTo(long)
	forth := way(order)
	slices.Reverse(order)
	back := way(order)
	can := make([][]T, long+1)
	for at := range can {
		for i, x := range all {
			if forth[at][i] && back[at][i] {
				can[at] = append(can[at], x)
			}
		}
	}
	return can
}

// scene is what each place of a ground can have; some tells whether there is a truth.
type scene struct {
	hard  [][]int
	earth [][]earth
	some  bool
}

func sceneOf(g api.Ground) scene {
	pits := map[int]api.Pit{}
	for _, p := range g.Pits {
		pits[p.At] = p
	}
	hard := chain(g.Long, numbersTo(api.SoilHard), func(at, n int) bool {
		p, ok := pits[at]
		return !ok || in(n, p.Hard)
	}, func(a, b int) bool { return near(a, b, g.Rise) })
	soils := chain(g.Long, earths(), func(at int, x earth) bool {
		p, ok := pits[at]
		return !ok || x.readAs(p)
	}, func(a, b earth) bool { return a.near(b, g.Change) })
	return scene{hard, soils, len(hard[0]) > 0 && len(soils[0]) > 0}
}

// reach returns the least and the greatest of some numbers.
func reach[T any](all []T, of func(T) int) api.Span {
	s := api.Span{Lo: of(all[0]), Hi: of(all[0])}
	for _, x := range all {
		s = api.Span{Lo: min(s.Lo, of(x)), Hi: max(s.Hi, of(x))}
	}
	return s
}

// work returns the least and the greatest sum of hardness: the best of all ways from number to number.
func work(can [][]int, from, to, rise int) api.Span {
	sums := map[int]api.Span{}
	for _, n := range can[from] {
		sums[n] = api.Span{Lo: n, Hi: n}
	}
	for at := from + 1; at <= to; at++ {
		next := map[int]api.Span{}
		for _, n := range can[at] {
			some := false
			var best api.Span
			for before := max(0, n-rise); before <= min(api.SoilHard, n+rise); before++ {
				s, ok := sums[before]
				if !ok {
					continue
				}
				if !some {
					best, some = s, true
				}
				best = api.Span{Lo: min(best.Lo, s.Lo), Hi: max(best.Hi, s.Hi)}
			}
			if some {
				next[n] = api.Span{Lo: best.Lo + n, Hi: best.Hi + n}
			}
		}
		sums = next
	}
	var all []api.Span
	for _, s := range sums {
		all = append(all, s)
	}
	lo := reach(all, func(s api.Span) int { return s.Lo })
	hi := reach(all, func(s api.Span) int { return s.Hi })
	return api.Span{Lo: lo.Lo, Hi: hi.Hi}
}

// without returns a ground without one of its pits.
func without(g api.Ground, pit int) api.Ground {
	g.Pits = slices.Delete(slices.Clone(g.Pits), pit, pit+1)
	return g
}

// dice are numbers that are the same in each run.
func dice(seed uint64) *rand.Rand { return rand.New(rand.NewPCG(seed, 7)) }

// truth is what a ground truly has, place by place.
type truth struct {
	hard  []int
	earth []earth
}

// nature returns a ground without pits, and a truth of it.
func nature(r *rand.Rand, long, rise, change int) (api.Ground, truth) {
	g := api.Ground{Long: r.IntN(long + 1), Rise: r.IntN(rise + 1), Change: r.IntN(change + 1)}
	all := earths()
	hard, soil := r.IntN(api.SoilHard+1), all[r.IntN(len(all))]
	if r.IntN(3) == 0 {
		// Here bounds of all ground matter.
		hard = r.IntN(2) * api.SoilHard
	}
	var t truth
	for range g.Long + 1 {
		t.hard = append(t.hard, hard)
		t.earth = append(t.earth, soil)
		hard = min(api.SoilHard, max(0, hard-g.Rise+r.IntN(2*g.Rise+1)))
		next := all[r.IntN(len(all))]
		for !next.near(soil, g.Change) {
			next = all[r.IntN(len(all))]
		}
		soil = next
	}
	return g, t
}

// around returns a span with a number in it.
func around(r *rand.Rand, n, far, most int) api.Span {
	return api.Span{Lo: max(0, n-r.IntN(far+1)), Hi: min(most, n+r.IntN(far+1))}
}

// rightPit returns a pit that tells what is so.
func rightPit(r *rand.Rand, t truth, at, far int) api.Pit {
	x := t.earth[at]
	return api.Pit{
		At:   at,
		Hard: around(r, t.hard[at], 10*far, api.SoilHard),
		Sand: around(r, x.sand, far, api.SoilParts),
		Silt: around(r, x.silt, far, api.SoilParts),
		Clay: around(r, x.clay, far, api.SoilParts),
	}
}

// dig adds pits that tell what is so, at most so many.
func dig(r *rand.Rand, g api.Ground, t truth, pits, far int) api.Ground {
	places := r.Perm(g.Long + 1)[:min(r.IntN(pits+1), g.Long+1)]
	slices.Sort(places)
	g.Pits = nil
	for _, at := range places {
		g.Pits = append(g.Pits, rightPit(r, t, at, far))
	}
	return g
}

func someSpan(r *rand.Rand, most int) api.Span {
	a, b := r.IntN(most+1), r.IntN(most+1)
	return api.Span{Lo: min(a, b), Hi: max(a, b)}
}

// misread makes one of the pits tell anything.
func misread(r *rand.Rand, g api.Ground, pit int) api.Ground {
	g.Pits = slices.Clone(g.Pits)
	p := &g.Pits[pit]
	if r.IntN(2) == 0 {
		p.Hard = someSpan(r, api.SoilHard)
	} else {
		p.Sand, p.Silt, p.Clay = someSpan(r, api.SoilParts), someSpan(r, api.SoilParts), someSpan(r, api.SoilParts)
	}
	return g
}
