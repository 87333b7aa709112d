package soil_test

import (
	"reflect"
	"slices"
	"testing"

	"furrowworks/api"
	"furrowworks/soil"
)

const huge = int(^uint(0) >> 1)

func span(lo, hi int) api.Span { return api.Span{Lo: lo, Hi: hi} }

// all is the span of a part of which nothing is known.
func all() api.Span { return span(0, api.SoilParts) }

// hardPit and mixedPit tell of the hardness alone, and of the parts alone.
func hardPit(at, lo, hi int) api.Pit {
	return api.Pit{At: at, Hard: span(lo, hi), Sand: all(), Silt: all(), Clay: all()}
}

func mixedPit(at int, sand, silt, clay api.Span) api.Pit {
	return api.Pit{At: at, Hard: span(0, api.SoilHard), Sand: sand, Silt: silt, Clay: clay}
}

// sample is the ground of the chapter's examples; third is it with the third pit.
func sample() api.Ground {
	return api.Ground{Long: 10, Rise: 50, Change: 2, Pits: []api.Pit{
		{At: 2, Hard: span(300, 320), Sand: span(10, 12), Silt: span(4, 6), Clay: span(4, 5)},
		{At: 8, Hard: span(500, 520), Sand: span(5, 6), Silt: span(3, 5), Clay: span(9, 11)},
	}}
}

func third() api.Ground {
	g := sample()
	g.Pits = slices.Insert(g.Pits, 1, hardPit(5, 900, 900))
	return g
}

// answer is what a function returns, as a list that can be compared.
type answer struct {
	numbers []int
	e       api.Errno
}

func numbers(n ...int) answer { return answer{numbers: n} }

func zeros(e api.Errno, n int) answer { return answer{make([]int, n), e} }

func hard(g api.Ground, at int) answer {
	s, e := soil.Hard(g, at)
	return answer{[]int{s.Lo, s.Hi}, e}
}

func parts(g api.Ground, at int) answer {
	a, b, c, e := soil.Parts(g, at)
	return answer{[]int{a.Lo, a.Hi, b.Lo, b.Hi, c.Lo, c.Hi}, e}
}

func class(g api.Ground, at int) answer {
	n, e := soil.Class(g, at)
	return answer{[]int{n}, e}
}

func stretch(g api.Ground, class int) answer {
	from, to, e := soil.Stretch(g, class)
	return answer{[]int{from, to}, e}
}

func workOf(g api.Ground, from, to int) answer {
	s, e := soil.Work(g, from, to)
	return answer{[]int{s.Lo, s.Hi}, e}
}

func digAt(g api.Ground) answer {
	at, wide, e := soil.Dig(g)
	return answer{[]int{at, wide}, e}
}

func odd(g api.Ground) answer {
	n, e := soil.Odd(g)
	return answer{[]int{n}, e}
}

func same(t *testing.T, name string, got, want answer) {
	t.Helper()
	if !reflect.DeepEqual(got, want) {
		t.Errorf("%s: got %v, want %v", name, got, want)
	}
}

func TestHard(t *testing.T) {
	same(t, "2", hard(sample(), 2), numbers(300, 320))
	same(t, "5", hard(sample(), 5), numbers(350, 470))
	same(t, "0", hard(sample(), 0), numbers(200, 420))
	same(t, "no pits", hard(api.Ground{}, 0), numbers(0, 1000))
	g := api.Ground{Long: 3, Rise: 1000, Pits: []api.Pit{hardPit(1, 5, 7)}}
	same(t, "the pit", hard(g, 1), numbers(5, 7))
	same(t, "all bounds", hard(g, 2), numbers(0, 1000))
	g.Rise = 0
	same(t, "no rise", hard(g, 3), numbers(5, 7))
	// A pit is read wide, but the one beside it tells more.
	g = api.Ground{Long: 1, Rise: 10, Pits: []api.Pit{hardPit(0, 100, 900), hardPit(1, 895, 999)}}
	same(t, "both ways", hard(g, 0), numbers(885, 900))
	same(t, "both ways", hard(g, 1), numbers(895, 910))
}

func TestParts(t *testing.T) {
	same(t, "2", parts(sample(), 2), numbers(10, 12, 4, 6, 4, 5))
	same(t, "5", parts(sample(), 5), numbers(4, 12, 0, 11, 3, 11))
	same(t, "no pits", parts(api.Ground{}, 0), numbers(0, 20, 0, 20, 0, 20))
	g := api.Ground{Pits: []api.Pit{mixedPit(0, all(), span(2, 3), span(4, 6))}}
	same(t, "the third part follows", parts(g, 0), numbers(11, 14, 2, 3, 4, 6))
	g = api.Ground{Long: 1, Change: 1, Pits: []api.Pit{mixedPit(0, span(20, 20), all(), all())}}
	same(t, "no part below 0", parts(g, 1), numbers(19, 20, 0, 1, 0, 1))
	g.Change = 0
	same(t, "no change", parts(g, 1), numbers(20, 20, 0, 0, 0, 0))
	// From 20 sand at one end to 20 silt at the other one, sand alone gives way at first.
	g = api.Ground{Long: 4, Change: 5, Pits: []api.Pit{
		mixedPit(0, span(20, 20), all(), all()), mixedPit(4, all(), span(20, 20), all()),
	}}
	same(t, "one way alone", parts(g, 1), numbers(15, 15, 5, 5, 0, 0))
}

func TestClass(t *testing.T) {
	loam, sand, silt, clay := 1<<api.SoilLoam, 1<<api.SoilSand, 1<<api.SoilSilt, 1<<api.SoilClay
	for at, want := range map[int]int{2: loam, 3: loam | sand, 5: loam | clay, 7: loam | clay, 8: clay} {
		same(t, "sample", class(sample(), at), numbers(want))
	}
	same(t, "no pits", class(api.Ground{}, 0), numbers(15))
	for _, x := range []struct{ sand, silt, clay, want int }{
		{0, 12, 8, clay}, {12, 0, 8, clay}, {0, 0, 20, clay}, {0, 13, 7, silt}, {13, 0, 7, loam},
		{14, 6, 0, sand}, {14, 0, 6, sand}, {13, 7, 0, loam}, {20, 0, 0, sand},
		{8, 12, 0, silt}, {1, 12, 7, silt}, {9, 11, 0, loam}, {2, 11, 7, loam}, {0, 20, 0, silt},
	} {
		p := mixedPit(0, span(x.sand, x.sand), span(x.silt, x.silt), span(x.clay, x.clay))
		same(t, "one soil", class(api.Ground{Pits: []api.Pit{p}}, 0), numbers(x.want))
	}
	// The spans hold soils of each class, but not each soil of the spans is one.
	g := api.Ground{Pits: []api.Pit{mixedPit(0, span(0, 14), span(6, 20), span(0, 0))}}
	same(t, "no clay", class(g, 0), numbers(loam|sand|silt))
}

func TestStretch(t *testing.T) {
	same(t, "loam", stretch(sample(), api.SoilLoam), numbers(2, 2))
	same(t, "clay", stretch(sample(), api.SoilClay), numbers(8, 8))
	same(t, "sand", stretch(sample(), api.SoilSand), zeros(api.ErrNone, 2))
	same(t, "silt", stretch(sample(), api.SoilSilt), zeros(api.ErrNone, 2))
	same(t, "no pits", stretch(api.Ground{}, api.SoilLoam), zeros(api.ErrNone, 2))
	pure := mixedPit(0, span(20, 20), all(), all())
	g := api.Ground{Long: 5, Pits: []api.Pit{pure}}
	same(t, "all", stretch(g, api.SoilSand), numbers(0, 5))
	g = api.Ground{Long: 0, Pits: []api.Pit{pure}}
	same(t, "one place", stretch(g, api.SoilSand), numbers(0, 0))
	// With a change of 4 the places next to a pit of 20 sand are sand too, those behind them need not be.
	g = api.Ground{Long: 8, Change: 4, Pits: []api.Pit{pure}}
	same(t, "at the beginning", stretch(g, api.SoilSand), numbers(0, 1))
	g.Pits[0].At = 8
	same(t, "at the end", stretch(g, api.SoilSand), numbers(7, 8))
	second := pure
	second.At = 4
	g.Pits = []api.Pit{pure, second}
	g.Long = 4
	same(t, "the first of two", stretch(g, api.SoilSand), numbers(0, 1))
	g.Long = 8
	same(t, "the longest of two", stretch(g, api.SoilSand), numbers(3, 5))
}

func TestWork(t *testing.T) {
	same(t, "4 to 6", workOf(sample(), 4, 6), numbers(1050, 1410))
	same(t, "5 to 5", workOf(sample(), 5, 5), numbers(350, 470))
	same(t, "no pits", workOf(api.Ground{Long: api.SoilLong}, 0, api.SoilLong), numbers(0, 41000))
}

func TestDig(t *testing.T) {
	same(t, "sample", digAt(sample()), numbers(0, 220))
	same(t, "no pits", digAt(api.Ground{Long: 3}), numbers(0, 1000))
	g := api.Ground{Long: 6, Rise: 10, Pits: []api.Pit{hardPit(0, 500, 500), hardPit(6, 500, 500)}}
	same(t, "between", digAt(g), numbers(3, 60))
	g = api.Ground{Long: 2, Pits: []api.Pit{hardPit(1, 7, 7)}}
	same(t, "all is known", digAt(g), numbers(0, 0))
	g = api.Ground{Long: 3, Rise: 1, Pits: []api.Pit{hardPit(0, 7, 7)}}
	same(t, "at the end", digAt(g), numbers(3, 6))
}

func TestOdd(t *testing.T) {
	same(t, "sample", odd(sample()), zeros(api.ErrNone, 1))
	same(t, "third", odd(third()), numbers(2))
	same(t, "no pits", odd(api.Ground{}), zeros(api.ErrNone, 1))
	g := api.Ground{Long: 1, Pits: []api.Pit{hardPit(0, 1, 1), hardPit(1, 2, 2)}}
	same(t, "one of two", odd(g), numbers(3))
	two := api.Ground{Long: 1, Pits: []api.Pit{mixedPit(0, span(1, 1), all(), all()), mixedPit(1, span(2, 2), all(), all())}}
	same(t, "by parts", odd(two), numbers(3))
	alone := api.Ground{Pits: []api.Pit{mixedPit(0, span(0, 3), span(0, 3), span(0, 3))}}
	same(t, "too little of all", odd(alone), numbers(1))
	alone.Pits[0] = mixedPit(0, span(7, 9), span(7, 9), span(7, 9))
	same(t, "too much of all", odd(alone), numbers(1))
	g = api.Ground{Long: 3, Rise: 1, Pits: []api.Pit{
		hardPit(0, 0, 0), hardPit(1, 1000, 1000), hardPit(2, 0, 0), hardPit(3, 1000, 1000),
	}}
	same(t, "more than one is wrong", odd(g), numbers(0))
	// The pit 0 clashes by its hardness, the pit 2 by its parts: none alone is the one.
	g = api.Ground{Long: 2, Pits: []api.Pit{
		hardPit(0, 1, 1), {At: 1, Hard: span(5, 5), Sand: span(9, 9), Silt: all(), Clay: all()}, mixedPit(2, span(3, 3), all(), all()),
	}}
	same(t, "the one in both", odd(g), numbers(2))
}

// calls returns what each function answers, with numbers that are such or not.
func calls(g api.Ground, from, to, kind int) map[string]answer {
	return map[string]answer{
		"Hard":    hard(g, to),
		"Parts":   parts(g, to),
		"Class":   class(g, to),
		"Stretch": stretch(g, kind),
		"Work":    workOf(g, from, to),
		"Dig":     digAt(g),
		"Odd":     odd(g),
	}
}

// allZero expects an error with nothing beside it of the functions, but for some.
func allZero(t *testing.T, what string, got map[string]answer, e api.Errno, but ...string) {
	t.Helper()
	for _, name := range but {
		delete(got, name)
	}
	for name, a := range got {
		same(t, what+" "+name, a, zeros(e, len(a.numbers)))
	}
}

func TestNotValid(t *testing.T) {
	for name, change := range map[string]func(g *api.Ground){
		"long below 0":     func(g *api.Ground) { g.Long = -1 },
		"too long":         func(g *api.Ground) { g.Long = api.SoilLong + 1 },
		"huge long":        func(g *api.Ground) { g.Long = huge },
		"rise below 0":     func(g *api.Ground) { g.Rise = -1 },
		"rise too much":    func(g *api.Ground) { g.Rise = api.SoilHard + 1 },
		"huge rise":        func(g *api.Ground) { g.Rise = huge },
		"change below 0":   func(g *api.Ground) { g.Change = -1 },
		"change too much":  func(g *api.Ground) { g.Change = api.SoilParts + 1 },
		"pit below 0":      func(g *api.Ground) { g.Pits[0].At = -1 },
		"least place":      func(g *api.Ground) { g.Pits[0].At = -huge - 1 },
		"pit beyond":       func(g *api.Ground) { g.Pits[1].At = 11 },
		"huge place":       func(g *api.Ground) { g.Pits[1].At = huge },
		"pits at a place":  func(g *api.Ground) { g.Pits[1].At = 2 },
		"pits upside down": func(g *api.Ground) { g.Pits[1].At = 1 },
		"hard below 0":     func(g *api.Ground) { g.Pits[1].Hard = span(-1, 5) },
		"hard too much":    func(g *api.Ground) { g.Pits[1].Hard = span(5, 1001) },
		"hard upside down": func(g *api.Ground) { g.Pits[1].Hard = span(6, 5) },
		"huge hard":        func(g *api.Ground) { g.Pits[1].Hard = span(-huge-1, huge) },
		"sand below 0":     func(g *api.Ground) { g.Pits[0].Sand = span(-1, 5) },
		"sand too much":    func(g *api.Ground) { g.Pits[0].Sand = span(5, 21) },
		"sand upside down": func(g *api.Ground) { g.Pits[0].Sand = span(6, 5) },
		"silt below 0":     func(g *api.Ground) { g.Pits[1].Silt = span(-1, 5) },
		"silt too much":    func(g *api.Ground) { g.Pits[1].Silt = span(5, 21) },
		"silt upside down": func(g *api.Ground) { g.Pits[1].Silt = span(6, 5) },
		"clay below 0":     func(g *api.Ground) { g.Pits[0].Clay = span(-1, 5) },
		"clay too much":    func(g *api.Ground) { g.Pits[0].Clay = span(5, 21) },
		"clay upside down": func(g *api.Ground) { g.Pits[0].Clay = span(6, 5) },
	} {
		g := sample()
		change(&g)
		allZero(t, name, calls(g, 2, 4, 0), api.ErrArg)
		allZero(t, name+", numbers too", calls(g, 2, -1, -1), api.ErrArg)
	}
	g := api.Ground{Long: 10}
	for at := range api.SoilPits + 1 {
		g.Pits = append(g.Pits, hardPit(at, 0, 9))
	}
	allZero(t, "too many pits", calls(g, 2, 4, 0), api.ErrArg)
}

func TestLimits(t *testing.T) {
	g := api.Ground{Long: api.SoilLong, Rise: api.SoilHard, Change: api.SoilParts}
	for i := range api.SoilPits {
		g.Pits = append(g.Pits, hardPit(api.SoilLong-i, 0, api.SoilHard))
	}
	slices.Reverse(g.Pits)
	same(t, "Hard", hard(g, api.SoilLong), numbers(0, api.SoilHard))
	same(t, "Class", class(g, 0), numbers(15))
	g.Rise, g.Change = 0, 0
	same(t, "Parts", parts(g, 0), numbers(0, 20, 0, 20, 0, 20))
}

func TestNoSuchNumber(t *testing.T) {
	for name, g := range map[string]api.Ground{"sample": sample(), "clash": third()} {
		for _, at := range []int{-1, 11, huge, -huge - 1} {
			allZero(t, name, calls(g, 0, at, at), api.ErrRange, "Dig", "Odd")
			same(t, name+" Work", workOf(g, at, 10), zeros(api.ErrRange, 2))
		}
		same(t, name+" Stretch", stretch(g, api.SoilClasses), zeros(api.ErrRange, 2))
		same(t, name+" Work", workOf(g, 5, 4), zeros(api.ErrRange, 2))
	}
}

func TestClash(t *testing.T) {
	byParts := sample()
	byParts.Pits[0].Clay = span(20, 20)
	byChange := sample()
	byChange.Change = 0
	for name, g := range map[string]api.Ground{"by hardness": third(), "by parts": byParts, "by change": byChange} {
		// Of sand there would be no stretch either: the clash comes ahead of that.
		allZero(t, name, calls(g, 0, 2, api.SoilSand), api.ErrClash, "Odd")
		if n, e := soil.Odd(g); n == 0 || e != api.OK {
			t.Error(name, n, e)
		}
	}
}

func TestNilAndEmpty(t *testing.T) {
	g := api.Ground{Long: 3, Rise: 5, Change: 1}
	h := g
	h.Pits = []api.Pit{}
	if a, b := calls(g, 0, 1, 0), calls(h, 0, 1, 0); !reflect.DeepEqual(a, b) {
		t.Error(a, b)
	}
}

// TestArgumentsStay: arguments are only read (P2.8), also what lies behind the end of a list.
func TestArgumentsStay(t *testing.T) {
	for _, lay := range []func() api.Ground{sample, third} {
		g := lay()
		list := append(slices.Clone(g.Pits), hardPit(9, 1, 2))
		g.Pits = list[:len(list)-1]
		calls(g, 0, 1, 0)
		if !reflect.DeepEqual(list[:len(list)-1], lay().Pits) || list[len(list)-1] != hardPit(9, 1, 2) {
			t.Error(list)
		}
	}
}
