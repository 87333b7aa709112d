package furrow_test

import (
	"math/bits"
	"math/rand/v2"
	"slices"
	"testing"

	"furrowworks/api"
	"furrowworks/furrow"
)

// TestOracle holds all answers against those of the oracle (P4.1 to P4.6).
func TestOracle(t *testing.T) {
	r := dice(1)
	sure, perhaps := 0, 0
	for i := range 3000 {
		f := some(r, i%6, r.IntN(7), r.IntN(7))
		s := look(f)
		if s.surely != 0 {
			sure++
		}
		if s.surely != s.can {
			perhaps++
		}
		compare(t, f, s)
		for _, n := range []int{0, 1, r.IntN(40), 41} {
			surely, can := shallowOf(f, n)
			same(t, "Shallow", both(furrow.Shallow(f, n)), numbers(surely, can))
		}
		soil := soilOf(f)
		same(t, "Soil", spanned(furrow.Soil(f)), numbers(soil.Lo, soil.Hi))
		if t.Failed() {
			t.Fatalf("%+v", f)
		}
	}
	if sure < 100 || perhaps < 100 {
		t.Error("the furrows are too much alike", sure, perhaps)
	}
}

// TestFull is TestOracle for as many stations as there can be.
func TestFull(t *testing.T) {
	r := dice(2)
	for i := range 60 {
		f := some(r, 6+i%3, 2, r.IntN(12))
		compare(t, f, look(f))
		if t.Failed() {
			t.Fatalf("%+v", f)
		}
	}
	for around := range 3 {
		f := some(r, 7, 0, around*3)
		for i, s := range f.Offsets {
			lo := max(s.Lo-3, -12)
			f.Offsets[i] = span(lo, min(lo+6, 12))
		}
		compare(t, f, look(f))
		if t.Failed() {
			t.Fatalf("%+v", f)
		}
	}
}

// compare holds what is told of the bends of a furrow.
func compare(t *testing.T, f api.Furrow, s seen) {
	t.Helper()
	same(t, "Bend", spanned(furrow.Bend(f)), numbers(s.bend.Lo, s.bend.Hi))
	same(t, "Straightest", listed(furrow.Straightest(f)), numbers(s.straightest...))
	same(t, "Worst", both(furrow.Worst(f)), numbers(s.surely, s.can))
	for i := 1; i+1 < len(f.Offsets); i++ {
		same(t, "At", spanned(furrow.At(f, i)), numbers(s.bends[i].Lo, s.bends[i].Hi))
	}
}

// TestWrongOracle holds what must be wrong against the oracle (P4.4).
func TestWrongOracle(t *testing.T) {
	r := dice(3)
	var many [api.FurrowStations + 1]int
	for i := range 600 {
		f := some(r, i%6, r.IntN(5), r.IntN(13))
		most := r.IntN(8)
		want := wrongOf(f, most)
		many[bits.OnesCount(uint(want))]++
		same(t, "Wrong", number(furrow.Wrong(f, most)), numbers(want))
		if t.Failed() {
			t.Fatalf("%+v %d", f, most)
		}
	}
	for i := range 60 {
		f := some(r, 6+i%3, r.IntN(3), r.IntN(13))
		want := wrongOf(f, i%2)
		many[bits.OnesCount(uint(want))]++
		same(t, "Wrong", number(furrow.Wrong(f, i%2)), numbers(want))
		if t.Failed() {
			t.Fatalf("%+v %d", f, i%2)
		}
	}
	for n, times := range many[:6] {
		if times < 5 {
			t.Error("the furrows are too much alike", n, times)
		}
	}
}

// truth is how a furrow truly lies.
type truth struct{ offsets, widths, depths []int }

func pick(r *rand.Rand, spans []api.Span) []int {
	var all []int
	for _, s := range spans {
		all = append(all, s.Lo+r.IntN(s.Hi-s.Lo+1))
	}
	return all
}

func truthOf(r *rand.Rand, f api.Furrow) truth {
	return truth{pick(r, f.Offsets), pick(r, f.Widths), pick(r, f.Depths)}
}

func contains(s api.Span, n int) bool { return s.Lo <= n && n <= s.Hi }

func inside(a, b api.Span) bool { return b.Lo <= a.Lo && a.Hi <= b.Hi }

// subset tells whether all of a is in b.
func subset(a, b int) bool { return a&^b == 0 }

// TestTrue: however a furrow lies, what is told is so (P4.7, P2).
func TestTrue(t *testing.T) {
	r := dice(4)
	for i := range 1500 {
		f := some(r, i%9, r.IntN(7), r.IntN(13))
		checkTruth(t, f, truthOf(r, f))
		if t.Failed() {
			t.Fatalf("%+v", f)
		}
	}
}

func checkTruth(t *testing.T, f api.Furrow, x truth) {
	t.Helper()
	bend, _ := furrow.Bend(f)
	if !contains(bend, bendOf(x.offsets)) {
		t.Error("Bend", bend, x)
	}
	for i, n := range bendsOf(x.offsets) {
		if s, e := furrow.At(f, i); e == api.OK && !contains(s, n) {
			t.Error("At", i, s, x)
		}
	}
	surely, can, _ := furrow.Worst(f)
	if worst := worstOf(x.offsets); !subset(surely, worst) || !subset(worst, can) {
		t.Error("Worst", surely, can, x)
	}
	same(t, "Wrong", number(furrow.Wrong(f, bendOf(x.offsets))), numbers(0))
	soil, _ := furrow.Soil(f)
	all, less := 0, 0
	for i := range x.widths {
		all += x.widths[i] * x.depths[i]
		if x.depths[i] < 20 {
			less |= 1 << i
		}
	}
	if !contains(soil, all) {
		t.Error("Soil", soil, x)
	}
	if surely, can, _ := furrow.Shallow(f, 20); !subset(surely, less) || !subset(less, can) {
		t.Error("Shallow", surely, can, x)
	}
}

// TestStraight: the straightest furrow is a truth, and has the least bend, with which nothing must be wrong (P4.7).
func TestStraight(t *testing.T) {
	r := dice(5)
	for i := range 500 {
		f := some(r, i%9, r.IntN(7), r.IntN(13))
		bend, _ := furrow.Bend(f)
		offsets, _ := furrow.Straightest(f)
		if len(offsets) != len(f.Offsets) || bendOf(offsets) != bend.Lo {
			t.Fatal("Straightest", f, offsets, bend)
		}
		for i, n := range offsets {
			if !contains(f.Offsets[i], n) {
				t.Fatal("Straightest", f, offsets)
			}
		}
		same(t, "with the least bend", number(furrow.Wrong(f, bend.Lo)), numbers(0))
		if wrong, _ := furrow.Wrong(f, bend.Lo-1); bend.Lo > 0 && wrong == 0 {
			t.Error("nothing is wrong with less than the least bend", f, bend)
		}
	}
}

// enough tells whether a furrow can bend by so little if the stations of a set are wrong.
func enough(f api.Furrow, wrong, most int) bool {
	free := slices.Clone(f.Offsets)
	for i := range free {
		if wrong>>i%2 == 1 {
			free[i] = span(-12, 12)
		}
	}
	ok := false
	lists(free, func(offsets []int) { ok = ok || bendOf(offsets) <= most })
	return ok
}

// TestNeeded: what must be wrong is enough, and each station of it is needed (P4.7, P3).
func TestNeeded(t *testing.T) {
	r := dice(6)
	many := 0
	for i := range 100 {
		f := some(r, 3+i%3, r.IntN(3), 3+r.IntN(9))
		most := r.IntN(4)
		wrong, _ := furrow.Wrong(f, most)
		if bits.OnesCount(uint(wrong)) > 3 {
			continue
		}
		if !enough(f, wrong, most) {
			t.Error("not enough", f, most, wrong)
		}
		for i := range f.Offsets {
			if one := 1 << i; wrong&one != 0 {
				many++
				if enough(f, wrong&^one, most) {
					t.Error("not needed", f, most, wrong, i)
				}
			}
		}
	}
	if many < 50 {
		t.Error("too little must be wrong", many)
	}
}

// narrower is a furrow one of whose spans is narrower.
func narrower(r *rand.Rand, f api.Furrow) api.Furrow {
	g := api.Furrow{Offsets: slices.Clone(f.Offsets), Widths: slices.Clone(f.Widths), Depths: slices.Clone(f.Depths)}
	spans := [][]api.Span{g.Offsets, g.Widths, g.Depths}[r.IntN(3)]
	s := &spans[r.IntN(len(spans))]
	lo := s.Lo + r.IntN(s.Hi-s.Lo+1)
	*s = span(lo, lo+r.IntN(s.Hi-lo+1))
	return g
}

// TestMore: with a narrower span nothing is told less exactly (P4.8).
func TestMore(t *testing.T) {
	r := dice(7)
	for i := range 1000 {
		f := some(r, 1+i%8, r.IntN(7), r.IntN(13))
		g := narrower(r, f)
		wide, _ := furrow.Bend(f)
		narrow, _ := furrow.Bend(g)
		if !inside(narrow, wide) {
			t.Fatal("Bend", f, g)
		}
		for i := range f.Offsets {
			wide, _ := furrow.At(f, i)
			if narrow, _ := furrow.At(g, i); !inside(narrow, wide) {
				t.Fatal("At", f, g, i)
			}
		}
		wide, _ = furrow.Soil(f)
		if narrow, _ = furrow.Soil(g); !inside(narrow, wide) {
			t.Fatal("Soil", f, g)
		}
		checkSets(t, f, g, r.IntN(8), r.IntN(41))
	}
}

func checkSets(t *testing.T, f, g api.Furrow, most, least int) {
	t.Helper()
	surely, can, _ := furrow.Worst(f)
	if s, c, _ := furrow.Worst(g); !subset(surely, s) || !subset(c, can) {
		t.Fatal("Worst", f, g)
	}
	surely, can, _ = furrow.Shallow(f, least)
	if s, c, _ := furrow.Shallow(g, least); !subset(surely, s) || !subset(c, can) {
		t.Fatal("Shallow", f, g)
	}
	wrong, _ := furrow.Wrong(f, most)
	if w, _ := furrow.Wrong(g, most); bits.OnesCount(uint(w)) < bits.OnesCount(uint(wrong)) {
		t.Fatal("Wrong", f, g, most)
	}
}

// moved is a furrow whose offsets are all greater by so much, and by so much more from station to station; it may not be valid.
func moved(f api.Furrow, by, step int) api.Furrow {
	g := f
	g.Offsets = nil
	for i, s := range f.Offsets {
		g.Offsets = append(g.Offsets, span(s.Lo+by+step*i, s.Hi+by+step*i))
	}
	return g
}

// mirrored is a furrow whose offsets have the other sign.
func mirrored(f api.Furrow) api.Furrow {
	g := f
	g.Offsets = nil
	for _, s := range f.Offsets {
		g.Offsets = append(g.Offsets, span(-s.Hi, -s.Lo))
	}
	return g
}

// bendsTold is all that is told of bends: of the furrow, and of its stations.
func bendsTold(f api.Furrow) (bend answer, stations []answer) {
	for i := range f.Offsets {
		stations = append(stations, spanned(furrow.At(f, i)))
	}
	return spanned(furrow.Bend(f)), stations
}

func sameBends(t *testing.T, name string, f, g api.Furrow) {
	t.Helper()
	bend, stations := bendsTold(f)
	other, others := bendsTold(g)
	same(t, name, other, bend)
	for i, want := range stations {
		same(t, name, others[i], want)
	}
	same(t, name, both(furrow.Worst(g)), both(furrow.Worst(f)))
}

// TestMoved: bends are as they were wherever the line between the poles lies, and on both sides of it (P4.8).
func TestMoved(t *testing.T) {
	r := dice(8)
	times := 0
	for i := range 1500 {
		f := some(r, i%9, r.IntN(4), r.IntN(6))
		sameBends(t, "the other sign", f, mirrored(f))
		g := moved(f, r.IntN(11)-5, r.IntN(5)-2)
		if _, e := furrow.Soil(g); e == api.OK && len(f.Offsets) > 2 {
			times++
			sameBends(t, "moved", f, g)
		}
		if t.Failed() {
			t.Fatalf("%+v", f)
		}
	}
	if times < 200 {
		t.Error("too few were moved", times)
	}
}

// turned is a set of stations, counted from the other end.
func turned(all, stations int) int {
	return int(bits.Reverse(uint(all)) >> (bits.UintSize - stations))
}

// TestTurned: measured from its other end a furrow is the same, station by station (P4.8).
func TestTurned(t *testing.T) {
	r := dice(9)
	for i := range 500 {
		f := some(r, 1+i%8, r.IntN(7), r.IntN(13))
		n := len(f.Offsets)
		g := api.Furrow{Offsets: slices.Clone(f.Offsets), Widths: slices.Clone(f.Widths), Depths: slices.Clone(f.Depths)}
		slices.Reverse(g.Offsets)
		slices.Reverse(g.Widths)
		slices.Reverse(g.Depths)
		bend, stations := bendsTold(f)
		other, others := bendsTold(g)
		slices.Reverse(others)
		same(t, "Bend", other, bend)
		for i, want := range stations {
			same(t, "At", others[i], want)
		}
		surely, can, e := furrow.Worst(f)
		same(t, "Worst", both(furrow.Worst(g)), both(turned(surely, n), turned(can, n), e))
		surely, can, e = furrow.Shallow(f, 20)
		same(t, "Shallow", both(furrow.Shallow(g, 20)), both(turned(surely, n), turned(can, n), e))
		same(t, "Soil", spanned(furrow.Soil(g)), spanned(furrow.Soil(f)))
		if t.Failed() {
			t.Fatalf("%+v", f)
		}
	}
}

// TestAnything: all functions end, and do not panic, whatever they are given (P1, R2).
func TestAnything(t *testing.T) {
	r := dice(10)
	ends := []int{-huge - 1, -huge, -13, -12, -1, 0, 1, 6, 12, 13, 40, 60, 61, huge - 1, huge}
	end := func() int { return ends[r.IntN(len(ends))] }
	for range 20000 {
		var f api.Furrow
		for _, l := range []*[]api.Span{&f.Offsets, &f.Widths, &f.Depths} {
			for range r.IntN(4) {
				*l = append(*l, span(end(), end()))
			}
		}
		answers := []answer{spanned(furrow.At(f, end())), number(furrow.Wrong(f, end())), both(furrow.Shallow(f, end()))}
		for _, a := range ask(f, false) {
			answers = append(answers, a)
		}
		for _, a := range answers {
			if a.e != api.OK && slices.ContainsFunc(a.numbers, func(n int) bool { return n != 0 }) {
				t.Fatal(f, a)
			}
		}
	}
}
