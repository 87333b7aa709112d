package open_test

import (
	"slices"
	"testing"

	"furrowworks/api"
	"furrowworks/open"
)

const huge = int(^uint(0) >> 1)

func span(lo, hi int) api.Span { return api.Span{Lo: lo, Hi: hi} }

// sample is the field of the chapter's examples.
func sample() api.Field {
	return api.Field{Wide: 500, Furrow: span(24, 26), Side: 2, Opening: span(40, 60), Finish: span(30, 40)}
}

// strict is the strict field of the chapter's examples, of a width.
func strict(wide int) api.Field {
	return api.Field{Wide: wide, Furrow: span(25, 25), Side: 2, Opening: span(40, 40), Finish: span(30, 30)}
}

// bare is a field without opening and finish, whose furrows are 10 wide.
func bare(wide, side int) api.Field {
	return api.Field{Wide: wide, Furrow: span(10, 10), Side: side}
}

func plan(opening, rounds, left, right, furrow, finish int) api.Plan {
	return api.Plan{Opening: opening, Rounds: rounds, Left: left, Right: right, Furrow: furrow, Finish: finish}
}

// planned is the plan of the chapter's examples.
func planned() api.Plan { return plan(44, 4, 0, 0, 26, 40) }

// answer is what a function returns, as numbers that can be compared.
type answer struct {
	numbers []int
	e       api.Errno
}

func numbers(n ...int) answer { return answer{numbers: n} }

func none(e api.Errno, zeros int) answer { return answer{make([]int, zeros), e} }

func told(so bool, e api.Errno) answer {
	if so {
		return answer{[]int{1}, e}
	}
	return answer{[]int{0}, e}
}

func number(n int, e api.Errno) answer { return answer{[]int{n}, e} }

func both(a, b int, e api.Errno) answer { return answer{[]int{a, b}, e} }

func listed(l []int, e api.Errno) answer { return answer{l, e} }

func spanned(s api.Span, e api.Errno) answer { return answer{[]int{s.Lo, s.Hi}, e} }

func chosen(p api.Plan, passes int, e api.Errno) answer {
	return answer{[]int{p.Opening, p.Rounds, p.Left, p.Right, p.Furrow, p.Finish, passes}, e}
}

func same(t *testing.T, name string, got, want answer) {
	t.Helper()
	if !slices.Equal(got.numbers, want.numbers) || got.e != want.e {
		t.Errorf("%s: got %v, want %v", name, got, want)
	}
}

func TestFits(t *testing.T) {
	for _, p := range []api.Plan{
		planned(), plan(44, 3, 2, 2, 26, 40), plan(44, 3, 1, 3, 26, 40), plan(44, 3, 3, 1, 26, 40), plan(44, 1, 6, 6, 26, 40),
		plan(54, 4, 0, 0, 26, 30), plan(60, 4, 0, 0, 25, 40), plan(41, 4, 0, 1, 25, 34), plan(60, 4, 1, 0, 24, 32),
	} {
		same(t, "fits", told(open.Fits(sample(), p)), numbers(1))
	}
	for _, x := range []struct {
		name string
		p    api.Plan
	}{
		{"too narrow", plan(44, 4, 0, 0, 26, 39)}, {"too wide", plan(45, 4, 0, 0, 26, 40)},
		{"a round too few", plan(44, 3, 0, 0, 26, 40)}, {"a round too many", plan(44, 5, 0, 0, 26, 40)},
		{"an opening too narrow", plan(39, 4, 0, 1, 25, 36)}, {"an opening too wide", plan(61, 4, 0, 0, 25, 39)},
		{"a finish too narrow", plan(46, 4, 0, 1, 25, 29)}, {"a finish too wide", plan(43, 4, 0, 0, 26, 41)},
		{"furrows too wide", plan(60, 3, 1, 2, 27, 35)}, {"furrows too narrow", plan(46, 4, 1, 1, 23, 40)},
		{"too many on the left", plan(44, 3, 4, 0, 26, 40)}, {"too many on the right", plan(44, 3, 0, 4, 26, 40)},
		{"too much cast on the left", plan(44, 0, 8, 8, 26, 40)}, {"less than no cast", plan(44, 4, -1, 1, 26, 40)},
		{"less than no cast on the right", plan(44, 4, 1, -1, 26, 40)}, {"nothing", api.Plan{}},
	} {
		same(t, x.name, told(open.Fits(sample(), x.p)), numbers(0))
	}
	same(t, "less than no rounds", told(open.Fits(bare(0, 1), plan(0, -1, 1, 1, 10, 0))), numbers(0))
	same(t, "seven are cast", told(open.Fits(bare(130, 1), plan(0, 0, 6, 7, 10, 0))), numbers(0))
	same(t, "six are cast", told(open.Fits(bare(130, 1), plan(0, 1, 5, 6, 10, 0))), numbers(1))
	same(t, "only its opening", told(open.Fits(strict(70), plan(40, 0, 0, 0, 25, 30))), numbers(1))
	same(t, "a furrow too narrow", told(open.Fits(api.Field{Wide: 46, Furrow: span(24, 26), Side: 2}, plan(0, 0, 1, 1, 23, 0))), numbers(0))
	same(t, "a furrow too wide", told(open.Fits(api.Field{Wide: 54, Furrow: span(24, 26), Side: 2}, plan(0, 0, 1, 1, 27, 0))), numbers(0))
	same(t, "narrow furrows, although there are none", told(open.Fits(strict(70), plan(40, 0, 0, 0, 24, 30))), numbers(0))
	for side := 1; side <= 4; side++ {
		for left := range 7 {
			for right := range 7 {
				far := left-right > side || right-left > side
				same(t, "apart", told(open.Fits(bare(10*(left+right), side), plan(0, 0, left, right, 10, 0))), told(!far, api.OK))
			}
		}
		same(t, "many rounds", told(open.Fits(api.Field{Wide: 2000, Furrow: span(1, 1), Side: side}, plan(0, 1000/side, 0, (2000-1000/side*side*2)%7, 1, 0))), numbers(1))
	}
}

// TestFitsAnything: a plan that is nowhere near a field does not fit it, also where its furrows cannot be counted.
func TestFitsAnything(t *testing.T) {
	f := api.Field{Furrow: span(1, 60), Side: 4}
	for _, n := range []int{-huge - 1, -huge, -1 << 62, -1 << 61, -1 << 60, -1, 1, 1 << 58, 1 << 59, 1 << 60, 1 << 61, 1 << 62, huge - 1, huge} {
		for _, p := range []api.Plan{
			plan(n, 0, 0, 0, 1, 0), plan(0, n, 0, 0, 1, 0), plan(0, 0, n, 0, 1, 0), plan(0, 0, 0, n, 1, 0), plan(0, 0, n, n, 1, 0), plan(0, 0, 0, 0, 61*n, 0), plan(0, 0, 0, 0, 1, n),
			plan(n, 0, 0, 0, 1, -n), plan(0, n, -n, -n, 1, 0), plan(0, 0, n, -n, 1, 0), plan(0, n, 0, 0, 32, 0), plan(0, n, 0, 0, 16, 0),
		} {
			same(t, "anything", told(open.Fits(f, p)), numbers(0))
			same(t, "anything", number(open.Passes(f, p)), none(api.ErrRange, 1))
		}
	}
}

func TestPasses(t *testing.T) {
	for _, x := range []struct{ p, passes []int }{
		{[]int{44, 4, 0, 0, 26, 40}, []int{8}}, {[]int{44, 3, 1, 3, 26, 40}, []int{9}}, {[]int{44, 3, 3, 1, 26, 40}, []int{9}},
		{[]int{44, 3, 2, 2, 26, 40}, []int{8}}, {[]int{44, 2, 4, 4, 26, 40}, []int{8}}, {[]int{44, 2, 3, 5, 26, 40}, []int{9}},
		{[]int{44, 1, 6, 6, 26, 40}, []int{8}}, {[]int{40, 4, 1, 0, 25, 35}, []int{9}},
	} {
		p := x.p
		same(t, "passes", number(open.Passes(sample(), plan(p[0], p[1], p[2], p[3], p[4], p[5]))), numbers(x.passes...))
	}
	same(t, "none", number(open.Passes(strict(70), plan(40, 0, 0, 0, 25, 30))), numbers(0))
	for side, want := range [][]int{1: {0, 1, 2, 3, 4, 5, 6}, 2: {0, 1, 1, 2, 2, 3, 3}, 3: {0, 1, 1, 1, 2, 2, 2}, 4: {0, 1, 1, 1, 1, 2, 2}} {
		for left, passes := range want {
			for right := max(left-side, 0); right <= min(left+side, 6); right++ {
				f := bare(10*(2*side*3+left+right), side)
				same(t, "casts", number(open.Passes(f, plan(0, 3, left, right, 10, 0))), numbers(6+passes+want[right]))
			}
		}
	}
	same(t, "does not fit", number(open.Passes(sample(), plan(44, 4, 0, 0, 26, 39))), none(api.ErrRange, 1))
}

func TestCount(t *testing.T) {
	for _, x := range []struct {
		name string
		f    api.Field
		n    int
	}{
		{"sample", sample(), 186}, {"one", strict(70), 1}, {"one furrow", strict(95), 2}, {"two furrows", strict(120), 3}, {"none", strict(100), 0}, {"too narrow", strict(69), 0},
		{"nothing at all", api.Field{Furrow: span(1, 1), Side: 1}, 1}, {"furrows of each width, although there are none", api.Field{Furrow: span(1, 60), Side: 1}, 60},
		{"opening and finish alone", api.Field{Wide: 5, Furrow: span(50, 60), Side: 4, Opening: span(0, 5), Finish: span(0, 3)}, 11 * 4},
		{"as wide as can be", api.Field{Wide: 2000, Furrow: span(1, 1), Side: 1}, 7},
	} {
		same(t, x.name, number(open.Count(x.f)), numbers(x.n))
	}
}

func TestBest(t *testing.T) {
	same(t, "sample", chosen(open.Best(sample())), chosen(planned(), 8, api.OK))
	for _, x := range []struct {
		name   string
		f      api.Field
		p      api.Plan
		passes int
	}{
		{"nothing at all", api.Field{Furrow: span(1, 1), Side: 1}, plan(0, 0, 0, 0, 1, 0), 0},
		{"the narrowest furrows, although there are none", api.Field{Furrow: span(7, 60), Side: 1}, plan(0, 0, 0, 0, 7, 0), 0},
		{"only its opening", strict(70), plan(40, 0, 0, 0, 25, 30), 0},
		{"one furrow: the left side has the fewer", strict(95), plan(40, 0, 0, 1, 25, 30), 1},
		{"two furrows at a time", strict(120), plan(40, 0, 0, 2, 25, 30), 1},
		{"a round rather than casts", strict(170), plan(40, 1, 0, 0, 25, 30), 2},
		{"a round and a furrow", strict(195), plan(40, 1, 0, 1, 25, 30), 3},
		{"no wider opening than needed", api.Field{Wide: 100, Furrow: span(60, 60), Side: 1, Opening: span(0, 60), Finish: span(0, 30)}, plan(10, 0, 0, 1, 60, 30), 1},
		{"the least opening before the narrowest furrows", api.Field{Wide: 100, Furrow: span(50, 60), Side: 1, Opening: span(0, 50), Finish: span(0, 45)}, plan(0, 0, 0, 1, 55, 45), 1},
		{"the narrowest furrows of one opening", api.Field{Wide: 100, Furrow: span(50, 60), Side: 1, Opening: span(0, 30), Finish: span(0, 60)}, plan(0, 0, 0, 1, 50, 50), 1},
		{"one furrow rather than two", api.Field{Wide: 60, Furrow: span(30, 60), Side: 4}, plan(0, 0, 0, 1, 60, 0), 1},
		{"three of them at once", api.Field{Wide: 60, Furrow: span(10, 20), Side: 4}, plan(0, 0, 0, 3, 20, 0), 1},
	} {
		same(t, x.name, chosen(open.Best(x.f)), chosen(x.p, x.passes, api.OK))
	}
	for _, wide := range []int{0, 1, 69, 71, 94, 96, 100, 1999, 2000} {
		same(t, "none", chosen(open.Best(strict(wide))), none(api.ErrNone, 7))
	}
}

func TestWidths(t *testing.T) {
	same(t, "sample", listed(open.Widths(sample())), numbers(24, 25, 26))
	same(t, "none", listed(open.Widths(strict(100))), numbers())
	same(t, "one", listed(open.Widths(strict(120))), numbers(25))
	same(t, "divisors", listed(open.Widths(api.Field{Wide: 60, Furrow: span(2, 59), Side: 3})), numbers(2, 3, 4, 5, 6, 10, 12, 15, 20, 30))
	same(t, "with some finish", listed(open.Widths(api.Field{Wide: 60, Furrow: span(20, 60), Side: 3, Finish: span(1, 2)})), numbers(29, 58, 59))
	same(t, "all of them, although there are none", listed(open.Widths(api.Field{Furrow: span(5, 9), Side: 3})), numbers(5, 6, 7, 8, 9))
}

func TestNearest(t *testing.T) {
	same(t, "sample", both(open.Nearest(sample())), numbers(500, 500))
	for _, x := range []struct{ wide, less, more int }{
		{0, -1, 70}, {60, -1, 70}, {69, -1, 70}, {70, 70, 70}, {71, 70, 95}, {94, 70, 95}, {95, 95, 95}, {100, 95, 120}, {1994, 1970, 1995}, {1995, 1995, 1995}, {1996, 1995, -1}, {2000, 1995, -1},
	} {
		same(t, "strict", both(open.Nearest(strict(x.wide))), numbers(x.less, x.more))
	}
	same(t, "nothing at all", both(open.Nearest(api.Field{Furrow: span(60, 60), Side: 4})), numbers(0, 0))
	same(t, "up to the greatest finish", both(open.Nearest(api.Field{Wide: 55, Furrow: span(50, 50), Side: 1, Finish: span(0, 3)})), numbers(53, 100))
	same(t, "from the least opening on", both(open.Nearest(api.Field{Wide: 55, Furrow: span(50, 50), Side: 1, Opening: span(10, 12)})), numbers(12, 60))
	same(t, "some are beyond OpenWide", both(open.Nearest(api.Field{Wide: 2000, Furrow: span(60, 60), Side: 1, Opening: span(0, 30)})), numbers(2000, 2000))
	same(t, "the last one of all", both(open.Nearest(api.Field{Wide: 1999, Furrow: span(60, 60), Side: 1, Opening: span(20, 30)})), numbers(1950, 2000))
}

func TestLeft(t *testing.T) {
	for _, x := range []struct{ by, want api.Span }{
		{span(0, 0), span(400, 400)}, {span(-2, 1), span(384, 432)}, {span(-10, 10), span(240, 560)}, {span(3, 5), span(320, 352)}, {span(-5, -3), span(448, 480)},
	} {
		same(t, "sample", spanned(open.Left(sample(), planned(), x.by)), spanned(x.want, api.OK))
	}
	same(t, "an odd furrow", spanned(open.Left(sample(), plan(40, 4, 1, 0, 25, 35), span(0, 3))), numbers(299, 350))
	same(t, "no furrows", spanned(open.Left(strict(70), plan(40, 0, 0, 0, 25, 30), span(-10, 10))), numbers(300, 300))
	same(t, "below 0", spanned(open.Left(bare(80, 1), plan(0, 3, 1, 1, 10, 0), span(1, 2))), numbers(-16, -8))
	for _, by := range badSpans(-10, 10) {
		same(t, "no span", spanned(open.Left(sample(), planned(), by)), none(api.ErrRange, 2))
	}
	same(t, "does not fit", spanned(open.Left(sample(), plan(44, 4, 0, 0, 26, 39), span(0, 0))), none(api.ErrRange, 2))
}

func TestAim(t *testing.T) {
	for _, x := range []struct {
		done, used int
		want       answer
	}{
		{10, 2630, numbers(255, 260)}, {15, 3880, none(api.ErrNone, 2)}, {0, 0, numbers(260, 260)}, {15, 3900, numbers(260, 260)}, {15, 3899, none(api.ErrNone, 2)},
		{15, 3940, numbers(240, 260)}, {15, 4010, numbers(240, 250)}, {15, 4020, numbers(240, 240)}, {15, 4021, none(api.ErrNone, 2)},
		{14, 3700, numbers(240, 260)}, {14, 3661, numbers(250, 260)}, {14, 3660, numbers(250, 260)}, {14, 3751, numbers(240, 254)}, {14, 3750, numbers(240, 255)},
		{0, 20000, none(api.ErrNone, 2)}, {15, 20000, none(api.ErrNone, 2)}, {15, 0, none(api.ErrNone, 2)},
		{16, 4160, none(api.ErrRange, 2)}, {17, 4160, none(api.ErrRange, 2)}, {-1, 0, none(api.ErrRange, 2)}, {0, -1, none(api.ErrRange, 2)}, {0, 20001, none(api.ErrRange, 2)},
		{huge, 0, none(api.ErrRange, 2)}, {-huge - 1, 0, none(api.ErrRange, 2)}, {0, huge, none(api.ErrRange, 2)}, {0, -huge - 1, none(api.ErrRange, 2)},
	} {
		same(t, "sample", spanned(open.Aim(sample(), planned(), x.done, x.used)), x.want)
	}
	same(t, "no furrows", spanned(open.Aim(strict(70), plan(40, 0, 0, 0, 25, 30), 0, 0)), none(api.ErrRange, 2))
	same(t, "does not fit", spanned(open.Aim(sample(), plan(44, 4, 0, 0, 26, 39), 0, 0)), none(api.ErrRange, 2))
	loose := api.Field{Wide: 100, Furrow: span(1, 60), Side: 1, Opening: span(10, 10), Finish: span(0, 90)}
	same(t, "nothing is left", spanned(open.Aim(loose, plan(10, 0, 1, 1, 30, 30), 1, 900)), none(api.ErrNone, 2))
	same(t, "a last narrow furrow", spanned(open.Aim(loose, plan(10, 0, 1, 1, 30, 30), 1, 890)), numbers(10, 10))
	same(t, "not wider than a furrow is", spanned(open.Aim(loose, plan(10, 0, 1, 1, 30, 30), 1, 0)), numbers(10, 600))
}

// badSpans are spans that are not valid within two numbers.
func badSpans(lo, hi int) []api.Span {
	return []api.Span{span(lo+1, lo), span(lo-1, lo), span(hi, hi+1), span(hi+1, hi+1), span(lo-1, lo-1), span(-huge-1, lo), span(hi, huge), span(-huge-1, huge), span(huge, -huge-1)}
}

// ask calls all functions with a field and a plan; other numbers that are asked are not such if low is true.
func ask(f api.Field, p api.Plan, low bool) map[string]answer {
	by, done := span(-1, 2), 0
	if low {
		by, done = span(1, 0), -1
	}
	return map[string]answer{
		"Fits":    told(open.Fits(f, p)),
		"Passes":  number(open.Passes(f, p)),
		"Count":   number(open.Count(f)),
		"Best":    chosen(open.Best(f)),
		"Widths":  listed(open.Widths(f)),
		"Nearest": both(open.Nearest(f)),
		"Left":    spanned(open.Left(f, p, by)),
		"Aim":     spanned(open.Aim(f, p, done, 0)),
	}
}

// TestArg: what is not valid is told first, with nothing beside it (R1, R2).
func TestArg(t *testing.T) {
	var bad []api.Field
	change := func(how func(f *api.Field)) {
		f := sample()
		how(&f)
		bad = append(bad, f)
	}
	for _, n := range []int{-1, 2001, huge, -huge - 1} {
		change(func(f *api.Field) { f.Wide = n })
	}
	for _, n := range []int{-1, 0, 5, huge, -huge - 1} {
		change(func(f *api.Field) { f.Side = n })
	}
	for _, s := range badSpans(1, 60) {
		change(func(f *api.Field) { f.Furrow = s })
	}
	for _, s := range badSpans(0, 120) {
		change(func(f *api.Field) { f.Opening = s })
		change(func(f *api.Field) { f.Finish = s })
	}
	zeros := map[string]int{"Fits": 1, "Passes": 1, "Count": 1, "Best": 7, "Nearest": 2, "Left": 2, "Aim": 2}
	for _, f := range bad {
		for _, p := range []api.Plan{planned(), {}} {
			for _, low := range []bool{false, true} {
				for name, got := range ask(f, p, low) {
					same(t, name, got, none(api.ErrArg, zeros[name]))
				}
			}
		}
	}
}

// TestLimits: what is at the limits is valid.
func TestLimits(t *testing.T) {
	for side := 1; side <= 4; side++ {
		f := api.Field{Wide: 2000, Furrow: span(1, 60), Side: side, Opening: span(0, 120), Finish: span(0, 120)}
		p, _, _ := open.Best(f)
		for name, got := range ask(f, p, false) {
			if got.e != api.OK {
				t.Error(name, got)
			}
		}
	}
	for _, f := range []api.Field{
		{Wide: 0, Furrow: span(1, 1), Side: 1},
		{Wide: 2000, Furrow: span(60, 60), Side: 4, Opening: span(120, 120), Finish: span(120, 120)},
	} {
		for _, got := range []answer{number(open.Count(f)), both(open.Nearest(f)), listed(open.Widths(f)), told(open.Fits(f, planned()))} {
			if got.e != api.OK {
				t.Error(f, got)
			}
		}
	}
}

// TestMemory: no result is kept (P5.9, R4).
func TestMemory(t *testing.T) {
	before := ask(sample(), planned(), false)
	a, _ := open.Widths(sample())
	b, _ := open.Widths(sample())
	clear(a)
	same(t, "another result", listed(b, api.OK), before["Widths"])
	for name, got := range ask(sample(), planned(), false) {
		same(t, name, got, before[name])
	}
}
