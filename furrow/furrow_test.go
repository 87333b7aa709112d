package furrow_test

import (
	"reflect"
	"slices"
	"testing"

	"furrowworks/api"
	"furrowworks/furrow"
)

const huge = int(^uint(0) >> 1)

func span(lo, hi int) api.Span { return api.Span{Lo: lo, Hi: hi} }

// sample is the furrow F of the chapter's examples.
func sample() api.Furrow {
	return api.Furrow{
		Offsets: []api.Span{span(0, 1), span(2, 3), span(0, 0), span(1, 1), span(5, 6)},
		Widths:  slices.Repeat([]api.Span{span(30, 30)}, 5),
		Depths:  []api.Span{span(15, 16), span(14, 18), span(15, 15), span(12, 14), span(16, 17)},
	}
}

// lying is a furrow with these offsets, 1 wide, and 1 deep.
func lying(offsets ...api.Span) api.Furrow {
	ones := slices.Repeat([]api.Span{span(1, 1)}, len(offsets))
	return api.Furrow{Offsets: offsets, Widths: ones, Depths: slices.Clone(ones)}
}

// at is a furrow whose offsets are known.
func at(offsets ...int) api.Furrow {
	var spans []api.Span
	for _, n := range offsets {
		spans = append(spans, span(n, n))
	}
	return lying(spans...)
}

// cut is a furrow with one station of these widths and depths.
func cut(width, depth api.Span) api.Furrow {
	return api.Furrow{Offsets: make([]api.Span, 1), Widths: []api.Span{width}, Depths: []api.Span{depth}}
}

// answer is what a function returns, as numbers that can be compared.
type answer struct {
	numbers []int
	e       api.Errno
}

func numbers(n ...int) answer { return answer{numbers: n} }

func none(e api.Errno, zeros int) answer { return answer{make([]int, zeros), e} }

func spanned(s api.Span, e api.Errno) answer { return answer{[]int{s.Lo, s.Hi}, e} }

func listed(l []int, e api.Errno) answer { return answer{l, e} }

func number(n int, e api.Errno) answer { return answer{[]int{n}, e} }

func both(a, b int, e api.Errno) answer { return answer{[]int{a, b}, e} }

// set is stations as a set.
func set(stations ...int) int {
	all := 0
	for _, n := range stations {
		all |= 1 << n
	}
	return all
}

func same(t *testing.T, name string, got, want answer) {
	t.Helper()
	if !slices.Equal(got.numbers, want.numbers) || got.e != want.e {
		t.Errorf("%s: got %v, want %v", name, got, want)
	}
}

func TestBend(t *testing.T) {
	same(t, "sample", spanned(furrow.Bend(sample())), numbers(3, 6))
	same(t, "no stations", spanned(furrow.Bend(api.Furrow{})), numbers(0, 0))
	same(t, "one station", spanned(furrow.Bend(at(7))), numbers(0, 0))
	same(t, "two stations", spanned(furrow.Bend(at(-12, 12))), numbers(0, 0))
	same(t, "straight", spanned(furrow.Bend(at(-9, -6, -3, 0, 3, 6, 9, 12))), numbers(0, 0))
	same(t, "to the right", spanned(furrow.Bend(at(0, 4, 1))), numbers(7, 7))
	same(t, "to the left", spanned(furrow.Bend(at(0, -4, -1))), numbers(7, 7))
	same(t, "the greatest bend of all", spanned(furrow.Bend(at(-12, 12, -12, 0))), numbers(48, 48))
	same(t, "the greatest one is at the end", spanned(furrow.Bend(at(0, 0, 1, 5))), numbers(3, 3))
	// Each station alone could bend by 0, but the one in between cannot suit both.
	same(t, "stations together", spanned(furrow.Bend(lying(span(0, 0), span(0, 0), span(0, 4), span(4, 4)))), numbers(2, 4))
	// What is between known offsets has bends of one kind, even or odd, alone.
	same(t, "odd", spanned(furrow.Bend(lying(span(0, 0), span(-3, 3), span(1, 1)))), numbers(1, 7))
	same(t, "even", spanned(furrow.Bend(lying(span(0, 0), span(-3, 3), span(2, 2)))), numbers(0, 8))
}

func TestAt(t *testing.T) {
	for station, want := range []answer{none(api.ErrRange, 2), numbers(3, 6), numbers(3, 4), numbers(3, 4), none(api.ErrRange, 2)} {
		same(t, "sample", spanned(furrow.At(sample(), station)), want)
	}
	for _, station := range []int{-1, 5, 8, huge, -huge - 1} {
		same(t, "no station", spanned(furrow.At(sample(), station)), none(api.ErrRange, 2))
	}
	for n := range 3 {
		for station := -1; station <= n; station++ {
			same(t, "no inner station", spanned(furrow.At(at(make([]int, n)...), station)), none(api.ErrRange, 2))
		}
	}
	same(t, "both sides of 0", spanned(furrow.At(lying(span(0, 0), span(-2, 3), span(0, 1)), 1)), numbers(0, 6))
	same(t, "below 0", spanned(furrow.At(lying(span(4, 5), span(-2, -1), span(3, 6)), 1)), numbers(9, 15))
	same(t, "not 0", spanned(furrow.At(lying(span(0, 0), span(-2, 3), span(5, 5)), 1)), numbers(1, 9))
	same(t, "other stations do not matter", spanned(furrow.At(lying(span(0, 0), span(0, 0), span(0, 4), span(4, 4)), 2)), numbers(0, 4))
}

func TestStraightest(t *testing.T) {
	same(t, "sample", listed(furrow.Straightest(sample())), numbers(1, 2, 0, 1, 5))
	same(t, "no stations", listed(furrow.Straightest(api.Furrow{})), numbers())
	same(t, "one station", listed(furrow.Straightest(lying(span(-3, 2)))), numbers(-3))
	same(t, "two stations", listed(furrow.Straightest(lying(span(-3, 2), span(7, 12)))), numbers(-3, 7))
	wide := span(-1, 5)
	same(t, "the first of many", listed(furrow.Straightest(lying(wide, wide, wide, wide, wide, wide, wide, wide))), numbers(-1, -1, -1, -1, -1, -1, -1, -1))
	// The first station can be 1 at least, if the bend is to be 0.
	same(t, "not the least one", listed(furrow.Straightest(lying(span(0, 6), span(1, 2), span(1, 1), span(1, 3)))), numbers(1, 1, 1, 1))
	// Once the first station bends by 4 the others may, too.
	same(t, "no straighter than needed", listed(furrow.Straightest(lying(span(0, 0), span(2, 2), span(0, 0), span(-2, 0)))), numbers(0, 2, 0, -2))
}

func TestWorst(t *testing.T) {
	same(t, "sample", both(furrow.Worst(sample())), numbers(0, set(1, 2, 3)))
	for n := range 3 {
		same(t, "no inner station", both(furrow.Worst(at(make([]int, n)...))), numbers(0, 0))
	}
	same(t, "one inner station", both(furrow.Worst(lying(span(0, 6), span(-3, 3), span(0, 6)))), numbers(set(1), set(1)))
	same(t, "straight", both(furrow.Worst(at(0, 0, 0, 0, 0))), numbers(set(1, 2, 3), set(1, 2, 3)))
	same(t, "equal ones", both(furrow.Worst(at(0, 3, 0, 3, 6))), numbers(set(1, 2), set(1, 2)))
	same(t, "the last one", both(furrow.Worst(at(0, 0, 0, 3, 0))), numbers(set(3), set(3)))
	same(t, "perhaps both", both(furrow.Worst(lying(span(0, 0), span(1, 2), span(4, 4), span(6, 6)))), numbers(set(1), set(1, 2)))
	same(t, "far apart", both(furrow.Worst(lying(span(0, 0), span(0, 1), span(0, 0), span(0, 0), span(0, 1), span(0, 0)))), numbers(0, set(1, 2, 3, 4)))
	// The stations 1 and 3 could bend by up to 6, and the station 2 by less; but it bends twice as much in each truth.
	same(t, "bends that hang together", both(furrow.Worst(lying(span(0, 0), span(0, 0), span(0, 6), span(0, 0), span(0, 0)))), numbers(set(2), set(1, 2, 3)))
}

func TestWrong(t *testing.T) {
	for _, x := range []struct {
		name   string
		furrow api.Furrow
		most   int
		want   answer
	}{
		{"sample", sample(), 3, numbers(0)},
		{"sample", sample(), 2, numbers(set(1, 2))},
		{"sample", sample(), huge, numbers(0)},
		{"sample", sample(), -1, none(api.ErrRange, 1)},
		{"sample", sample(), -huge - 1, none(api.ErrRange, 1)},
		{"no stations", api.Furrow{}, 0, numbers(0)},
		{"no stations, and no number", api.Furrow{}, -1, none(api.ErrRange, 1)},
		{"two stations", at(-12, 12), 0, numbers(0)},
		{"its bend", at(0, 5, 0), 10, numbers(0)},
		{"one less", at(0, 5, 0), 9, numbers(set(0))},
		{"the least number of several", at(0, 5, 0), 0, numbers(set(0))},
		{"just within the reach", at(-12, 12, 12), 0, numbers(set(0))},
		{"beyond the reach", at(0, 12, -12), 0, numbers(set(1))},
		{"only the last one", at(12, 6, -1), 0, numbers(set(2))},
		{"nearly straight", at(0, 9, 1), 1, numbers(set(1))},
		{"not half a step", at(-6, 12, 11), 0, numbers(set(0, 1))},
		{"fewer ones before lesser numbers", at(0, 0, 0, 0, 0, 0, 0, 9), 0, numbers(set(7))},
		{"several", at(0, 12, 0, 0, -12, 0, 0, 12), 0, numbers(set(1, 4, 7))},
		{"to and fro", at(12, -12, 12, -12, 12, -12, 12, -12), 0, numbers(set(0, 2, 4, 6))},
		{"all but one", at(-7, -1, -4, 7, -10, -9, 3, 9), 0, numbers(set(0, 1, 2, 3, 4, 5, 6))},
	} {
		same(t, x.name, number(furrow.Wrong(x.furrow, x.most)), x.want)
	}
}

func TestShallow(t *testing.T) {
	for _, x := range []struct{ least, surely, can int }{
		{0, 0, 0}, {12, 0, 0}, {13, 0, set(3)}, {14, 0, set(3)}, {15, set(3), set(1, 3)}, {16, set(2, 3), set(0, 1, 2, 3)},
		{17, set(0, 2, 3), 31}, {18, set(0, 2, 3, 4), 31}, {19, 31, 31}, {huge, 31, 31},
	} {
		same(t, "sample", both(furrow.Shallow(sample(), x.least)), numbers(x.surely, x.can))
	}
	same(t, "no number", both(furrow.Shallow(sample(), -1)), none(api.ErrRange, 2))
	same(t, "no number", both(furrow.Shallow(sample(), -huge-1)), none(api.ErrRange, 2))
	same(t, "no stations", both(furrow.Shallow(api.Furrow{}, 5)), numbers(0, 0))
	same(t, "no stations, and no number", both(furrow.Shallow(api.Furrow{}, -1)), none(api.ErrRange, 2))
	same(t, "no depth", both(furrow.Shallow(cut(span(9, 9), span(0, 0)), 0)), numbers(0, 0))
	same(t, "no depth", both(furrow.Shallow(cut(span(9, 9), span(0, 0)), 1)), numbers(1, 1))
}

func TestSoil(t *testing.T) {
	same(t, "sample", spanned(furrow.Soil(sample())), numbers(2160, 2400))
	same(t, "no stations", spanned(furrow.Soil(api.Furrow{})), numbers(0, 0))
	same(t, "one station", spanned(furrow.Soil(cut(span(3, 5), span(7, 11)))), numbers(21, 55))
	same(t, "no depth", spanned(furrow.Soil(cut(span(3, 5), span(0, 11)))), numbers(0, 55))
	most := at(make([]int, api.FurrowStations)...)
	for i := range most.Offsets {
		most.Widths[i], most.Depths[i] = span(1, api.FurrowWidth), span(1, api.FurrowDepth)
	}
	same(t, "all that can be", spanned(furrow.Soil(most)), numbers(8, 8*60*40))
}

// ask calls all functions with a furrow; numbers that are asked are not such if low is true.
func ask(f api.Furrow, low bool) map[string]answer {
	station, n := 1, 3
	if low {
		station, n = -1, -1
	}
	return map[string]answer{
		"Bend":        spanned(furrow.Bend(f)),
		"At":          spanned(furrow.At(f, station)),
		"Straightest": listed(furrow.Straightest(f)),
		"Worst":       both(furrow.Worst(f)),
		"Wrong":       number(furrow.Wrong(f, n)),
		"Shallow":     both(furrow.Shallow(f, n)),
		"Soil":        spanned(furrow.Soil(f)),
	}
}

// badSpans are spans that are not valid within two numbers.
func badSpans(lo, hi int) []api.Span {
	return []api.Span{span(lo+1, lo), span(lo-1, lo), span(hi, hi+1), span(hi+1, hi+1), span(lo-1, lo-1), span(-huge-1, lo), span(hi, huge), span(-huge-1, huge), span(huge, -huge-1)}
}

// TestArg: what is not valid is told first, with nothing beside it (R1, R2).
func TestArg(t *testing.T) {
	var bad []api.Furrow
	change := func(how func(f *api.Furrow)) {
		f := sample()
		how(&f)
		bad = append(bad, f)
	}
	for _, s := range append(badSpans(-12, 12), span(0, 7), span(-12, 12)) {
		change(func(f *api.Furrow) { f.Offsets[4] = s })
	}
	for _, s := range badSpans(1, 60) {
		change(func(f *api.Furrow) { f.Widths[0] = s })
	}
	for _, s := range badSpans(0, 40) {
		change(func(f *api.Furrow) { f.Depths[2] = s })
	}
	change(func(f *api.Furrow) { f.Offsets = f.Offsets[:4] })
	change(func(f *api.Furrow) { f.Widths = f.Widths[:4] })
	change(func(f *api.Furrow) { f.Depths = f.Depths[:4] })
	change(func(f *api.Furrow) { f.Widths = append(f.Widths, span(30, 30)) })
	change(func(f *api.Furrow) { f.Depths = append(f.Depths, span(15, 15)) })
	change(func(f *api.Furrow) { f.Offsets = nil })
	change(func(f *api.Furrow) { f.Widths = nil })
	change(func(f *api.Furrow) { f.Depths = nil })
	bad = append(bad, at(make([]int, 9)...))
	zeros := map[string]int{"Bend": 2, "At": 2, "Worst": 2, "Wrong": 1, "Shallow": 2, "Soil": 2}
	for _, f := range bad {
		for _, low := range []bool{false, true} {
			for name, got := range ask(f, low) {
				same(t, name, got, none(api.ErrArg, zeros[name]))
			}
		}
	}
}

// TestLimits: the limits themselves are valid.
func TestLimits(t *testing.T) {
	n := api.FurrowStations
	for _, f := range []api.Furrow{
		{Offsets: slices.Repeat([]api.Span{span(-12, -6)}, n), Widths: slices.Repeat([]api.Span{span(1, 60)}, n), Depths: slices.Repeat([]api.Span{span(0, 40)}, n)},
		{Offsets: slices.Repeat([]api.Span{span(6, 12)}, n), Widths: slices.Repeat([]api.Span{span(60, 60)}, n), Depths: slices.Repeat([]api.Span{span(40, 40)}, n)},
	} {
		for name, got := range ask(f, false) {
			if got.e != api.OK {
				t.Error(name, got)
			}
		}
	}
}

// TestMemory: arguments are only read, results are new, and nil is the same as empty (R3, R4).
func TestMemory(t *testing.T) {
	f := sample()
	before := ask(f, false)
	if !reflect.DeepEqual(f, sample()) {
		t.Error("an argument was changed", f)
	}
	a, _ := furrow.Straightest(f)
	b, _ := furrow.Straightest(f)
	clear(a)
	same(t, "another result", listed(b, api.OK), before["Straightest"])
	if !reflect.DeepEqual(ask(f, false), before) {
		t.Error("a result was kept")
	}
	empty := []api.Span{}
	for name, got := range ask(api.Furrow{Offsets: empty, Depths: empty}, false) {
		same(t, name, got, ask(api.Furrow{}, false)[name])
	}
}
