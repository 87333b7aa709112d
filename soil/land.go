package soil

import (
	"iter"

	"furrowworks/api"
)

// land is a ground that is looked at, with what each of its places can have, of all truths.
type land struct {
	api.Ground
	hard  []api.Span
	mixes []mix
}

// look returns all that a valid ground can have; it panics if there is no truth.
func look(g api.Ground) land {
	l := land{Ground: g}
	l.hard = l.hardness()
	l.mixes = l.soils()
	return l
}

func hasTruth(g api.Ground) bool {
	_, e := told(func() land { return look(g) })
	return e == api.OK
}

// along yields all places, from the first to the last one, or back.
func (l land) along(back bool) iter.Seq[int] {
	return func(yield func(int) bool) {
		for i := 0; i <= l.Long; i++ {
			at := i
			if back {
				at = l.Long - i
			}
			if !yield(at) {
				return
			}
		}
	}
}

// voice is somebody who tells how hard each place can be.
type voice interface {
	hardAt(at int) api.Span
}

// pitVoice is what a pit tells of all places, by how fast the ground can change.
type pitVoice struct {
	api.Pit
	rise int
}

func (v pitVoice) hardAt(at int) api.Span {
	return wider(v.Hard, v.rise*greatest(at-v.At, v.At-at))
}

// bound is what is so of all ground.
type bound api.Span

func (b bound) hardAt(int) api.Span { return api.Span(b) }

// hardness returns from where to where each place can be hard. The least numbers of all places together change no faster than the ground can, and so do the greatest ones: each of both is a truth, if no voice contradicts another one.
func (l land) hardness() []api.Span {
	voices := []voice{bound{Lo: 0, Hi: api.SoilHard}}
	for _, p := range l.Pits {
		voices = append(voices, pitVoice{p, l.Rise})
	}
	var all []api.Span
	for at := range l.along(false) {
		s := common(voices, at)
		if s.Lo > s.Hi {
			panic(api.ErrClash)
		}
		all = append(all, s)
	}
	return all
}

// common returns what all voices leave of a place.
func common(voices []voice, at int) api.Span {
	var los, his []int
	for _, v := range voices {
		s := v.hardAt(at)
		los = append(los, s.Lo)
		his = append(his, s.Hi)
	}
	return api.Span{Lo: greatest(los...), Hi: least(his...)}
}

// soils returns the soils that each place can have. The way forward leaves at each place what suits all places before it, and the way back of that what suits all behind it.
func (l land) soils() []mix {
	all := l.dug()
	for _, back := range [...]bool{false, true} {
		narrow := anySoil().both
		for at := range l.along(back) {
			all[at] = narrow(all[at])
			if all[at] == (mix{}) {
				panic(api.ErrClash)
			}
			narrow = all[at].changed(l.Change).both
		}
	}
	return all
}

// dug returns what the pits tell of their own places alone.
func (l land) dug() []mix {
	all := make([]mix, l.Long+1)
	for at := range all {
		all[at] = anySoil()
	}
	for _, p := range l.Pits {
		all[p.At] = mix{p.Sand, p.Silt, p.Clay}
	}
	return all
}

// longest returns the first and the last place of the longest stretch that surely has a class, and whether there is one.
func (l land) longest(class int) (stretch api.Span, ok bool) {
	size := 0
starts:
	for from := range l.along(false) {
		for to := from; to <= l.Long; to++ {
			if l.mixes[to].classes() != 1<<class {
				continue starts
			}
			if to-from >= size {
				stretch, size = api.Span{Lo: from, Hi: to}, to-from+1
			}
		}
		// A stretch that began later would end at the last place too.
		break starts
	}
	return stretch, size > 0
}

// hole is where to dig, and how wide the hardness is there.
type hole struct{ at, wide int }

// widest returns the first place of those whose hardness is widest.
func (l land) widest() hole {
	best := hole{0, -1}
	for at, s := range l.hard {
		if s.Hi-s.Lo > best.wide {
			best = hole{at, s.Hi - s.Lo}
		}
	}
	return best
}
