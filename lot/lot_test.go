package lot_test

import (
	"reflect"
	"slices"
	"testing"

	"furrowworks/api"
	"furrowworks/lot"
)

const huge = int(^uint(0) >> 1)

// sample is the lots of the chapter's examples.
func sample() api.Lots {
	return api.Lots{Men: []api.LotMan{{Club: 1}, {Club: 1, Left: true}, {Club: 2}, {Novice: true}}, Worst: 1 << 1}
}

// alike is so many ploughmen who are all the same.
func alike(men int, m api.LotMan) api.Lots {
	return api.Lots{Men: slices.Repeat([]api.LotMan{m}, men)}
}

// free is so many ploughmen for whom there are no rules.
func free(men int) api.Lots { return alike(men, api.LotMan{}) }

func left() api.LotMan { return api.LotMan{Left: true} }

func novice() api.LotMan { return api.LotMan{Novice: true} }

func list(n ...int) []int { return n }

// answer is what a function returns, as lists that can be compared; a draw that is nil is the same as an empty one.
type answer struct {
	numbers []int
	draw    []int
	e       api.Errno
}

func numbers(n ...int) answer { return answer{numbers: n} }

func drawing(draw ...int) answer { return answer{draw: draw} }

func none(e api.Errno, zeros int) answer { return answer{make([]int, zeros), nil, e} }

func number(n int, e api.Errno) answer { return answer{[]int{n}, nil, e} }

func drew(draw []int, e api.Errno) answer { return answer{nil, draw, e} }

func check(l api.Lots, draw []int) answer {
	plot, rule, e := lot.Check(l, draw)
	return answer{[]int{plot, rule}, nil, e}
}

func swaps(l api.Lots, draw []int) answer {
	pairs, e := lot.Swaps(l, draw)
	a := answer{e: e}
	for _, p := range pairs {
		a.draw = append(a.draw, p[0], p[1])
	}
	return a
}

func least(l api.Lots) answer {
	broken, draw, e := lot.Least(l)
	return answer{[]int{broken}, draw, e}
}

func same(t *testing.T, name string, got, want answer) {
	t.Helper()
	if !slices.Equal(got.numbers, want.numbers) || !slices.Equal(got.draw, want.draw) || got.e != want.e {
		t.Errorf("%s: got %v, want %v", name, got, want)
	}
}

func TestCheck(t *testing.T) {
	same(t, "a club", check(sample(), list(0, 1, 2, 3)), numbers(1, api.LotClub))
	same(t, "a left one", check(sample(), list(2, 1, 3, 0)), numbers(1, api.LotEdge))
	same(t, "a novice", check(sample(), list(2, 3, 0, 1)), numbers(1, api.LotNovice))
	same(t, "lawful", check(sample(), list(0, 2, 3, 1)), none(api.ErrNone, 2))
	same(t, "at the end", check(sample(), list(3, 2, 0, 1)), numbers(3, api.LotClub))
	same(t, "the one before", check(sample(), list(3, 2, 1, 0)), numbers(2, api.LotEdge))
	all := api.LotMan{Club: 3, Left: true, Novice: true}
	l := alike(3, all)
	l.Worst = 7
	same(t, "first the first plot", check(l, list(0, 1, 2)), numbers(0, api.LotNovice))
	l.Worst = 6
	same(t, "first the first rule", check(l, list(0, 1, 2)), numbers(1, api.LotClub))
	l.Men[1].Club = 0
	same(t, "then the second one", check(l, list(0, 1, 2)), numbers(1, api.LotEdge))
	l.Men[1].Left = false
	same(t, "then the third one", check(l, list(0, 1, 2)), numbers(1, api.LotNovice))
	l.Men[1].Novice = false
	same(t, "the last plot is an edge, but bad", check(l, list(0, 1, 2)), numbers(2, api.LotNovice))
	l.Worst = 0
	same(t, "a club apart", check(l, list(0, 1, 2)), none(api.ErrNone, 2))
	same(t, "no club", check(free(2), list(1, 0)), none(api.ErrNone, 2))
	same(t, "the greatest club", check(alike(2, api.LotMan{Club: api.LotClubs}), list(0, 1)), numbers(1, api.LotClub))
	same(t, "both edges", check(alike(2, left()), list(0, 1)), none(api.ErrNone, 2))
	same(t, "one plot", check(alike(1, left()), list(0)), none(api.ErrNone, 2))
	same(t, "no edge", check(alike(3, left()), list(2, 1, 0)), numbers(1, api.LotEdge))
}

func TestCount(t *testing.T) {
	same(t, "sample", number(lot.Count(sample())), numbers(5))
	all := 1
	for n := 1; n <= api.LotMen; n++ {
		all *= n
		same(t, "free", number(lot.Count(free(n))), numbers(all))
	}
	same(t, "left ones", number(lot.Count(alike(3, left()))), numbers(0))
	same(t, "two left ones", number(lot.Count(alike(2, left()))), numbers(2))
	same(t, "one club", number(lot.Count(alike(2, api.LotMan{Club: 4}))), numbers(0))
	bad := alike(1, novice())
	same(t, "a novice", number(lot.Count(bad)), numbers(1))
	bad.Worst = 1
	same(t, "a novice on the worst ground", number(lot.Count(bad)), numbers(0))
	l := free(3)
	l.Worst = 7
	same(t, "all grounds are bad", number(lot.Count(l)), numbers(6))
}

func TestNth(t *testing.T) {
	for n, draw := range [][]int{{0, 2, 3, 1}, {1, 2, 0, 3}, {1, 2, 3, 0}, {2, 0, 3, 1}, {3, 0, 2, 1}} {
		same(t, "sample", drew(lot.Nth(sample(), n)), drawing(draw...))
		same(t, "sample", number(lot.Place(sample(), draw)), numbers(n))
	}
	for _, n := range []int{5, 6, -1, huge, -huge - 1} {
		same(t, "no index", drew(lot.Nth(sample(), n)), none(api.ErrNone, 0))
	}
	same(t, "none is lawful", drew(lot.Nth(alike(3, left()), 0)), none(api.ErrNone, 0))
	same(t, "the last one", drew(lot.Nth(free(8), 40319)), drawing(7, 6, 5, 4, 3, 2, 1, 0))
	same(t, "the last one", number(lot.Place(free(8), list(7, 6, 5, 4, 3, 2, 1, 0))), numbers(40319))
	same(t, "behind the last one", drew(lot.Nth(free(8), 40320)), none(api.ErrNone, 0))
	same(t, "one", drew(lot.Nth(free(1), 0)), drawing(0))
	for _, draw := range [][]int{{0, 1, 2, 3}, {2, 1, 3, 0}, {2, 3, 0, 1}, {3, 2, 0, 1}} {
		same(t, "not lawful", number(lot.Place(sample(), draw)), none(api.ErrNone, 1))
	}
}

func TestDraw(t *testing.T) {
	for seed, draw := range map[int][]int{10: {0, 2, 3, 1}, 11: {3, 0, 2, 1}, 12: {2, 0, 3, 1}, 13: {1, 2, 3, 0}} {
		same(t, "sample", drew(lot.Draw(sample(), seed)), drawing(draw...))
	}
	// 65536 becomes 65536 again, and goes on so; 0 becomes 74, 5624, and 28652.
	same(t, "the greatest seed", drew(lot.Draw(free(3), api.LotSeeds)), drawing(1, 0, 2))
	same(t, "the least seed", drew(lot.Draw(free(3), 0)), drawing(2, 0, 1))
	same(t, "one", drew(lot.Draw(free(1), 7)), drawing(0))
	for _, seed := range []int{0, 1, api.LotSeeds} {
		same(t, "none is lawful", drew(lot.Draw(alike(3, left()), seed)), none(api.ErrNone, 0))
	}
	for _, seed := range []int{-1, api.LotSeeds + 1, huge, -huge - 1} {
		same(t, "no seed", drew(lot.Draw(sample(), seed)), none(api.ErrRange, 0))
		same(t, "no seed, and none is lawful", drew(lot.Draw(alike(3, left()), seed)), none(api.ErrRange, 0))
	}
}

func TestCan(t *testing.T) {
	for man, plots := range []int{0b1111, 0b1001, 0b0111, 0b1101} {
		same(t, "sample", number(lot.Can(sample(), man)), numbers(plots))
	}
	same(t, "free", number(lot.Can(free(8), 7)), numbers(255))
	same(t, "none is lawful", number(lot.Can(alike(3, left()), 0)), numbers(0))
	same(t, "one", number(lot.Can(free(1), 0)), numbers(1))
}

func TestOften(t *testing.T) {
	for man, row := range [][]int{{1, 2, 1, 1}, {2, 0, 0, 3}, {1, 3, 1, 0}, {1, 0, 3, 1}} {
		for plot, n := range row {
			same(t, "sample", number(lot.Often(sample(), man, plot)), numbers(n))
		}
	}
	same(t, "free", number(lot.Often(free(8), 3, 7)), numbers(5040))
	same(t, "none is lawful", number(lot.Often(alike(3, left()), 0, 0)), numbers(0))
}

func TestSwaps(t *testing.T) {
	same(t, "sample", swaps(sample(), list(1, 2, 0, 3)), drawing(2, 3))
	same(t, "sample", swaps(sample(), list(0, 2, 3, 1)), drawing(0, 1, 0, 3))
	same(t, "in their order", swaps(free(3), list(2, 0, 1)), drawing(0, 1, 0, 2, 1, 2))
	same(t, "one", swaps(free(1), list(0)), drawing())
	same(t, "no two", swaps(api.Lots{Men: []api.LotMan{{}, novice()}, Worst: 1}, list(0, 1)), drawing())
	same(t, "not lawful", swaps(sample(), list(0, 1, 2, 3)), none(api.ErrNone, 0))
	// Those who come behind both who change places can be hurt, too.
	clubs := api.Lots{Men: []api.LotMan{{Club: 1}, {Club: 2}, {Club: 2}}}
	same(t, "the one behind", swaps(clubs, list(1, 0, 2)), drawing(0, 2))
	// What is wrong now is not lawful, though a swap would make it so.
	same(t, "not lawful yet", swaps(clubs, list(0, 1, 2)), none(api.ErrNone, 0))
}

func TestLeast(t *testing.T) {
	lone := answer{[]int{0}, list(0), api.OK}
	same(t, "sample", least(sample()), answer{[]int{0}, list(0, 2, 3, 1), api.OK})
	same(t, "left ones", least(alike(3, left())), answer{[]int{1}, list(0, 1, 2), api.OK})
	same(t, "more left ones", least(alike(8, left())), answer{[]int{6}, list(0, 1, 2, 3, 4, 5, 6, 7), api.OK})
	same(t, "one club", least(alike(3, api.LotMan{Club: 1})), answer{[]int{2}, list(0, 1, 2), api.OK})
	same(t, "one", least(free(1)), lone)
	l := alike(3, api.LotMan{Club: 1, Left: true, Novice: true})
	l.Worst = 7
	same(t, "all rules", least(l), answer{[]int{6}, list(0, 1, 2), api.OK})
	l = api.Lots{Men: []api.LotMan{novice(), {Left: true, Novice: true}, {Left: true, Novice: true}}, Worst: 2}
	same(t, "two rules at a plot count twice", least(l), answer{[]int{1}, list(1, 0, 2), api.OK})
	l = api.Lots{Men: []api.LotMan{novice(), novice(), {}}, Worst: 5}
	same(t, "the first one", least(l), answer{[]int{1}, list(0, 1, 2), api.OK})
}

// calls returns what each function answers.
func calls(l api.Lots, draw []int, man, plot, seed, n int) map[string]answer {
	return map[string]answer{
		"Check": check(l, draw),
		"Count": number(lot.Count(l)),
		"Nth":   drew(lot.Nth(l, n)),
		"Place": number(lot.Place(l, draw)),
		"Draw":  drew(lot.Draw(l, seed)),
		"Can":   number(lot.Can(l, man)),
		"Often": number(lot.Often(l, man, plot)),
		"Swaps": swaps(l, draw),
		"Least": least(l),
	}
}

// allZero expects an error with nothing beside it of the functions with these names, and another answer of the others.
func allZero(t *testing.T, what string, got map[string]answer, e api.Errno, names ...string) {
	t.Helper()
	for name, a := range got {
		if slices.Contains(names, name) {
			same(t, what+" "+name, a, none(e, len(a.numbers)))
		} else if a.e == e {
			t.Errorf("%s %s: the error %d", what, name, e)
		}
	}
}

func everyName() []string {
	return []string{"Check", "Count", "Nth", "Place", "Draw", "Can", "Often", "Swaps", "Least"}
}

func TestNotValid(t *testing.T) {
	for name, change := range map[string]func(l *api.Lots){
		"nobody":             func(l *api.Lots) { *l = api.Lots{} },
		"an empty list":      func(l *api.Lots) { l.Men = []api.LotMan{} },
		"too many":           func(l *api.Lots) { l.Men = free(api.LotMen + 1).Men },
		"far too many":       func(l *api.Lots) { l.Men = free(70).Men },
		"a club below 0":     func(l *api.Lots) { l.Men[3].Club = -1 },
		"no such club":       func(l *api.Lots) { l.Men[0].Club = api.LotClubs + 1 },
		"a huge club":        func(l *api.Lots) { l.Men[0].Club = huge },
		"a set below 0":      func(l *api.Lots) { l.Worst = -1 },
		"a plot too many":    func(l *api.Lots) { l.Worst = 1 << 4 },
		"another plot, too":  func(l *api.Lots) { l.Worst = 1<<4 + 1 },
		"a plot far away":    func(l *api.Lots) { l.Worst = huge },
		"a set far below 0":  func(l *api.Lots) { l.Worst = -huge - 1 },
		"nobody has no plot": func(l *api.Lots) { *l = api.Lots{Worst: 1} },
	} {
		l := sample()
		change(&l)
		allZero(t, name, calls(l, list(0, 2, 3, 1), 0, 0, 0, 0), api.ErrArg, everyName()...)
		// All else that is wrong comes later.
		allZero(t, name, calls(l, list(9), -1, huge, -1, -1), api.ErrArg, everyName()...)
	}
	full := api.Lots{Men: slices.Repeat([]api.LotMan{{Club: api.LotClubs, Left: true, Novice: true}}, api.LotMen), Worst: 255}
	allZero(t, "the greatest", calls(full, list(0, 1, 2, 3, 4, 5, 6, 7), 7, 7, api.LotSeeds, 0), api.ErrArg)
	least := api.Lots{Men: []api.LotMan{{}}}
	allZero(t, "the least", calls(least, list(0), 0, 0, 0, 0), api.ErrArg)
}

func TestRange(t *testing.T) {
	good := list(0, 2, 3, 1)
	for name, draw := range map[string][]int{
		"no draw": nil, "an empty draw": {}, "one too few": {0, 2, 3}, "one too many": {0, 2, 3, 1, 0},
		"twice": {0, 2, 3, 0}, "below 0": {0, 2, 3, -1}, "too great": {0, 2, 3, 4}, "all there, and one again": {0, 1, 2, 3, 3},
		"huge": {huge, -huge - 1, 64, 8}, "not lawful, and no draw": {0, 1, 2, 2}, "only one, often": {1, 1, 1, 1},
	} {
		allZero(t, name, calls(sample(), draw, 0, 0, 0, 0), api.ErrRange, "Check", "Place", "Swaps")
		allZero(t, name+", none is lawful", calls(alike(4, left()), draw, 0, 0, 0, 0), api.ErrRange, "Check", "Place", "Swaps")
	}
	for _, n := range []int{-1, 4, 5, 64, huge, -huge - 1} {
		allZero(t, "man", calls(sample(), good, n, 0, 0, 0), api.ErrRange, "Can", "Often")
		allZero(t, "plot", calls(sample(), good, 0, n, 0, 0), api.ErrRange, "Often")
		allZero(t, "both", calls(alike(4, left()), good, n, n, 0, 0), api.ErrRange, "Can", "Often")
	}
	for _, n := range []int{-1, api.LotSeeds + 1, huge, -huge - 1} {
		allZero(t, "seed", calls(sample(), good, 0, 0, n, 0), api.ErrRange, "Draw")
	}
	// An index is no number of a draw, a plot, a ploughman, or a seed.
	allZero(t, "index", calls(sample(), good, 0, 0, 0, huge), api.ErrRange)
}

// TestNone: with lots that allow no draw, and a draw that breaks a rule, nothing else is none.
func TestNone(t *testing.T) {
	l := alike(4, left())
	allZero(t, "left ones", calls(l, list(0, 1, 2, 3), 0, 0, 0, 0), api.ErrNone, "Nth", "Place", "Draw", "Swaps")
	allZero(t, "lawful", calls(sample(), list(0, 2, 3, 1), 0, 0, 0, 0), api.ErrNone, "Check")
}

// TestMemory: arguments are only read, and results are new (P3.8).
func TestMemory(t *testing.T) {
	l, draw := sample(), list(0, 2, 3, 1)
	first := calls(l, draw, 0, 0, 10, 0)
	if !reflect.DeepEqual(l, sample()) || !slices.Equal(draw, list(0, 2, 3, 1)) {
		t.Error("an argument was changed", l, draw)
	}
	for _, a := range first {
		for i := range a.draw {
			a.draw[i] = -1
		}
	}
	again := calls(l, draw, 0, 0, 10, 0)
	for name, a := range again {
		if slices.Contains(a.draw, -1) {
			t.Error("memory is shared:", name)
		}
	}
	a, _ := lot.Swaps(l, draw)
	b, _ := lot.Swaps(l, draw)
	a[0] = [2]int{9, 9}
	if b[0] == a[0] {
		t.Error("pairs are shared")
	}
	for i := range l.Men {
		l.Men[i] = api.LotMan{}
	}
	for _, name := range []string{"Nth", "Draw", "Least"} {
		same(t, name, again[name], answer{again[name].numbers, list(0, 2, 3, 1), api.OK})
	}
	room := append(make([]int, 0, 9), draw...)
	calls(l, room, 0, 0, 10, 0)
	if !slices.Equal(room[:9], list(0, 2, 3, 1, 0, 0, 0, 0, 0)) {
		t.Error("memory behind a draw was changed", room[:9])
	}
}
