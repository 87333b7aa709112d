package soil_test

import (
	"math/rand/v2"
	"reflect"
	"slices"
	"testing"

	"furrowworks/api"
	"furrowworks/soil"
)

// TestOracle holds all answers against those of the oracle (P2.1 to P2.7).
func TestOracle(t *testing.T) {
	r := dice(1)
	clashes := 0
	for i := range 300 {
		far := 1 + i%5
		g, fact := nature(r, 7, 30, 4)
		g = dig(r, g, fact, 5, far)
		if len(g.Pits) > 0 && i%2 == 0 {
			g = misread(r, g, r.IntN(len(g.Pits)))
		}
		s := sceneOf(g)
		if s.some {
			comparePlaces(t, g, s)
			from := r.IntN(g.Long + 1)
			to := from + r.IntN(g.Long-from+1)
			want := work(s.hard, from, to, g.Rise)
			same(t, "Work", workOf(g, from, to), numbers(want.Lo, want.Hi))
			same(t, "Odd", odd(g), zeros(api.ErrNone, 1))
		} else {
			clashes++
			allZero(t, "clash", calls(g, 0, g.Long, 0), api.ErrClash, "Odd")
			same(t, "Odd", odd(g), numbers(wantOdd(g)))
		}
		if t.Failed() {
			t.Fatalf("%+v", g)
		}
	}
	if clashes < 30 || clashes > 200 {
		t.Error("the grounds are too tame, or too wild", clashes)
	}
}

func comparePlaces(t *testing.T, g api.Ground, s scene) {
	t.Helper()
	var sets []int
	hole, wide := 0, -1
	for at := range g.Long + 1 {
		h := reach(s.hard[at], func(n int) int { return n })
		same(t, "Hard", hard(g, at), numbers(h.Lo, h.Hi))
		if h.Hi-h.Lo > wide {
			hole, wide = at, h.Hi-h.Lo
		}
		a := reach(s.earth[at], func(x earth) int { return x.sand })
		b := reach(s.earth[at], func(x earth) int { return x.silt })
		c := reach(s.earth[at], func(x earth) int { return x.clay })
		same(t, "Parts", parts(g, at), numbers(a.Lo, a.Hi, b.Lo, b.Hi, c.Lo, c.Hi))
		set := 0
		for _, x := range s.earth[at] {
			set |= 1 << x.class()
		}
		sets = append(sets, set)
		same(t, "Class", class(g, at), numbers(set))
	}
	same(t, "Dig", digAt(g), numbers(hole, wide))
	for n := range api.SoilClasses {
		same(t, "Stretch", stretch(g, n), wantStretch(sets, 1<<n))
	}
}

// wantStretch tries the lengths of stretches, the longest one first.
func wantStretch(sets []int, set int) answer {
	for size := len(sets); size > 0; size-- {
		for from := 0; from+size <= len(sets); from++ {
			if !slices.ContainsFunc(sets[from:from+size], func(n int) bool { return n != set }) {
				return numbers(from, from+size-1)
			}
		}
	}
	return zeros(api.ErrNone, 2)
}

func wantOdd(g api.Ground) int {
	set := 0
	for i := range g.Pits {
		if sceneOf(without(g, i)).some {
			set |= 1 << i
		}
	}
	return set
}

func hold(t *testing.T, name string, n int, s api.Span, e api.Errno) {
	t.Helper()
	if e != api.OK || !in(n, s) {
		t.Errorf("%s: %d is not in %v (%d)", name, n, s, e)
	}
}

// TestTrue: what is true is within what is told (P2.9).
func TestTrue(t *testing.T) {
	r := dice(2)
	for i := range 200 {
		g, fact := nature(r, api.SoilLong, 60, 4)
		g = dig(r, g, fact, api.SoilPits, i%5)
		sum, from := 0, r.IntN(g.Long+1)
		for at, n := range fact.hard {
			h, e := soil.Hard(g, at)
			hold(t, "Hard", n, h, e)
			a, b, c, e := soil.Parts(g, at)
			hold(t, "Parts", fact.earth[at].sand, a, e)
			hold(t, "Parts", fact.earth[at].silt, b, e)
			hold(t, "Parts", fact.earth[at].clay, c, e)
			if set, e := soil.Class(g, at); e != api.OK || set&(1<<fact.earth[at].class()) == 0 {
				t.Error("Class", at, set, e)
			}
			if at >= from {
				sum += n
				w, e := soil.Work(g, from, at)
				hold(t, "Work", sum, w, e)
			}
		}
		for n := range api.SoilClasses {
			from, to, e := soil.Stretch(g, n)
			for at := from; e == api.OK && at <= to; at++ {
				if fact.earth[at].class() != n {
					t.Error("Stretch", at, n)
				}
			}
		}
		same(t, "Odd", odd(g), zeros(api.ErrNone, 1))
		if t.Failed() {
			t.Fatalf("%+v, %+v", g, fact)
		}
	}
}

// TestMisread: if one pit alone was read wrong, it is among those that are told (P2.9).
func TestMisread(t *testing.T) {
	r := dice(3)
	told := 0
	for range 500 {
		g, fact := nature(r, api.SoilLong, 20, 1)
		g = dig(r, g, fact, api.SoilPits, 2)
		if len(g.Pits) == 0 {
			continue
		}
		i := r.IntN(len(g.Pits))
		g = misread(r, g, i)
		set, e := soil.Odd(g)
		if e == api.OK {
			told++
		}
		if e == api.OK && set&(1<<i) == 0 || e != api.OK && e != api.ErrNone {
			t.Fatalf("%+v, %+v, %d, %b, %d", g, fact, i, set, e)
		}
	}
	if told < 50 {
		t.Error("too few were told", told)
	}
}

// TestSteps: from a place to the next one neither end of Hard changes by more than Rise, and the work of two stretches is the sum of both (P2.9).
func TestSteps(t *testing.T) {
	r := dice(4)
	for range 100 {
		g, fact := nature(r, api.SoilLong, 60, 4)
		g = dig(r, g, fact, api.SoilPits, 3)
		for at := range g.Long {
			a, _ := soil.Hard(g, at)
			b, _ := soil.Hard(g, at+1)
			if !near(a.Lo, b.Lo, g.Rise) || !near(a.Hi, b.Hi, g.Rise) {
				t.Fatalf("%+v: %d, %v, %v", g, at, a, b)
			}
			before, _ := soil.Work(g, 0, at)
			behind, _ := soil.Work(g, at+1, g.Long)
			same(t, "Work", workOf(g, 0, g.Long), numbers(before.Lo+behind.Lo, before.Hi+behind.Hi))
		}
	}
}

// spans returns what is told of a place, and of the work up to it.
func spans(g api.Ground, at int) []api.Span {
	h, _ := soil.Hard(g, at)
	a, b, c, _ := soil.Parts(g, at)
	w, _ := soil.Work(g, 0, at)
	return []api.Span{h, a, b, c, w}
}

// notWider expects a truth of the ground b, and that no span of it is wider than that of a.
func notWider(t *testing.T, a, b api.Ground) {
	t.Helper()
	for at := range a.Long + 1 {
		more, less := spans(a, at), spans(b, at)
		for i, s := range less {
			if s.Lo < more[i].Lo || s.Hi > more[i].Hi {
				t.Errorf("span %d at %d: %v, %v", i, at, more[i], s)
			}
		}
		m, _ := soil.Class(a, at)
		if n, e := soil.Class(b, at); e != api.OK || n&^m != 0 {
			t.Errorf("Class at %d: %b, %b, %d", at, m, n, e)
		}
	}
}

// TestMore: one more pit with numbers of what is told leaves a truth, and nothing becomes wider by it; nothing becomes narrower by a greater Rise or Change (P2.9).
func TestMore(t *testing.T) {
	r := dice(5)
	for range 150 {
		g, fact := nature(r, api.SoilLong, 60, 4)
		g = dig(r, g, fact, api.SoilPits-1, 3)
		wilder := g
		wilder.Rise += r.IntN(20)
		wilder.Change += r.IntN(3)
		notWider(t, wilder, g)
		at := r.IntN(g.Long + 1)
		if !slices.ContainsFunc(g.Pits, func(p api.Pit) bool { return p.At == at }) {
			more := g
			more.Pits = append(slices.Clone(g.Pits), toldPit(r, g, at))
			slices.SortFunc(more.Pits, func(a, b api.Pit) int { return a.At - b.At })
			notWider(t, g, more)
		}
		if t.Failed() {
			t.Fatalf("%+v, %d", g, at)
		}
	}
}

// toldPit returns a pit with single numbers of what is told at its place.
func toldPit(r *rand.Rand, g api.Ground, at int) api.Pit {
	h, _ := soil.Hard(g, at)
	a, b, c, _ := soil.Parts(g, at)
	var can []earth
	for _, x := range earths() {
		if in(x.sand, a) && in(x.silt, b) && in(x.clay, c) {
			can = append(can, x)
		}
	}
	x, n := can[r.IntN(len(can))], h.Lo+r.IntN(h.Hi-h.Lo+1)
	return api.Pit{At: at, Hard: span(n, n), Sand: span(x.sand, x.sand), Silt: span(x.silt, x.silt), Clay: span(x.clay, x.clay)}
}

// TestTurned: if the plot is measured from its other end, places alone change (P2.9).
func TestTurned(t *testing.T) {
	r := dice(6)
	for range 200 {
		g, fact := nature(r, api.SoilLong, 40, 3)
		g = dig(r, g, fact, api.SoilPits, 2)
		if len(g.Pits) > 0 && r.IntN(2) == 0 {
			g = misread(r, g, r.IntN(len(g.Pits)))
		}
		turned := g
		turned.Pits = slices.Clone(g.Pits)
		slices.Reverse(turned.Pits)
		for i := range turned.Pits {
			turned.Pits[i].At = g.Long - turned.Pits[i].At
		}
		compareTurned(t, g, turned)
		if t.Failed() {
			t.Fatalf("%+v", g)
		}
	}
}

func compareTurned(t *testing.T, g, turned api.Ground) {
	t.Helper()
	for at := range g.Long + 1 {
		same(t, "Hard", hard(turned, g.Long-at), hard(g, at))
		same(t, "Parts", parts(turned, g.Long-at), parts(g, at))
		same(t, "Class", class(turned, g.Long-at), class(g, at))
		same(t, "Work", workOf(turned, g.Long-at, g.Long), workOf(g, 0, at))
	}
	same(t, "Dig", numbers(digAt(turned).numbers[1]), numbers(digAt(g).numbers[1]))
	for n := range api.SoilClasses {
		a, b := stretch(g, n), stretch(turned, n)
		same(t, "Stretch", answer{[]int{b.numbers[1] - b.numbers[0]}, b.e}, answer{[]int{a.numbers[1] - a.numbers[0]}, a.e})
	}
	a, b := odd(g), odd(turned)
	set := 0
	for i := range g.Pits {
		set |= b.numbers[0] >> i & 1 << (len(g.Pits) - 1 - i)
	}
	same(t, "Odd", answer{[]int{set}, b.e}, a)
}

// TestAgain: the same call gives the same (P11).
func TestAgain(t *testing.T) {
	r := dice(7)
	for range 20 {
		g, fact := nature(r, 20, 40, 3)
		g = dig(r, g, fact, api.SoilPits, 2)
		if a, b := calls(g, 0, g.Long, 0), calls(g, 0, g.Long, 0); !reflect.DeepEqual(a, b) {
			t.Fatalf("%+v: %v, %v", g, a, b)
		}
	}
}
