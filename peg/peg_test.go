package peg_test

import (
	"reflect"
	"testing"

	"furrowworks/api"
	"furrowworks/peg"
)

func span(lo, hi int) api.Span { return api.Span{Lo: lo, Hi: hi} }

func post(a, b, c, d int) api.Post { return api.Post{X: span(a, b), Y: span(c, d)} }

func chain(a, b, lo, hi int) api.Length {
	return api.Length{First: a, Second: b, Links: span(lo, hi)}
}

// pegsF, pegsG and pegsH are the chapter's examples.
func pegsF() api.Pegs {
	return api.Pegs{
		Side:    12,
		Posts:   []api.Post{post(0, 0, 0, 0), post(4, 5, 0, 0), post(0, 0, 3, 3)},
		Lengths: []api.Length{chain(0, 1, 7, 7), chain(0, 2, 3, 3), chain(1, 2, 7, 8)},
	}
}

func pegsG() api.Pegs { return only(pegsF(), 0) }

func pegsH() api.Pegs { return only(pegsF(), 2) }

// answer is what a function returns, as a list that can be compared.
type answer struct {
	numbers []int
	e       api.Errno
}

func spans(e api.Errno, l ...api.Span) answer {
	a := answer{e: e}
	for _, s := range l {
		a.numbers = append(a.numbers, s.Lo, s.Hi)
	}
	return a
}

func moved(p api.Pegs) answer {
	n, none, e := peg.Moved(p)
	if none {
		return answer{[]int{n, 1}, e}
	}
	return answer{[]int{n, 0}, e}
}

func where(p api.Pegs, n int) answer {
	x, y, e := peg.Where(p, n)
	return spans(e, x, y)
}

func number(n int, e api.Errno) answer { return answer{[]int{n}, e} }

func wide(s api.Span, e api.Errno) answer { return spans(e, s) }

func numbers(n ...int) answer { return answer{numbers: n} }

func zeros(e api.Errno, n int) answer { return answer{make([]int, n), e} }

func same(t *testing.T, name string, got, want answer) {
	t.Helper()
	if !reflect.DeepEqual(got, want) {
		t.Errorf("%s: got %v, want %v", name, got, want)
	}
}

func TestMoved(t *testing.T) {
	same(t, "F", moved(pegsF()), numbers(2, 0))
	same(t, "G", moved(pegsG()), numbers(7, 1))
	same(t, "H", moved(pegsH()), numbers(7, 1))
	same(t, "no pegs", moved(api.Pegs{}), numbers(0, 1))
	same(t, "nowhere to go", moved(api.Pegs{Posts: []api.Post{{}}}), numbers(0, 1))
	p := api.Pegs{Side: 2, Posts: []api.Post{post(0, 2, 0, 2), post(0, 2, 0, 1)}}
	same(t, "one has somewhere to go", moved(p), numbers(2, 1))
}

func TestWhere(t *testing.T) {
	same(t, "F 1", where(pegsF(), 1), numbers(7, 7, 0, 0))
	same(t, "F 2", where(pegsF(), 2), numbers(0, 0, 3, 3))
	same(t, "G 1", where(pegsG(), 1), numbers(0, 12, 0, 12))
	same(t, "F 1 places", number(peg.Places(pegsF(), 1)), numbers(1))
	same(t, "G 1 places", number(peg.Places(pegsG(), 1)), numbers(169))
	// At a distance of 5 there are places on both axes, and the ones of 3 and 4.
	p := api.Pegs{Side: 5, Posts: []api.Post{post(0, 0, 0, 0), post(5, 5, 0, 0)}, Lengths: []api.Length{chain(1, 0, 5, 5)}}
	same(t, "round", where(p, 1), numbers(0, 5, 0, 5))
	same(t, "round places", number(peg.Places(p, 1)), numbers(4))
	full := api.Pegs{Side: api.PegSide, Posts: []api.Post{post(13, 15, 13, 15), {}, {}, {}}}
	same(t, "full field", number(peg.Places(full, 0)), numbers(256))
}

func TestApart(t *testing.T) {
	same(t, "F 1 2", wide(peg.Apart(pegsF(), 1, 2)), numbers(58, 58))
	same(t, "F 2 1", wide(peg.Apart(pegsF(), 2, 1)), numbers(58, 58))
	same(t, "F 1 1", wide(peg.Apart(pegsF(), 1, 1)), numbers(0, 0))
	same(t, "G 0 1", wide(peg.Apart(pegsG(), 0, 1)), numbers(0, 12*12+12*12))
}

func TestArea(t *testing.T) {
	for _, n := range [][3]int{{0, 1, 2}, {0, 2, 1}, {1, 0, 2}, {1, 2, 0}, {2, 0, 1}, {2, 1, 0}} {
		same(t, "F", wide(peg.Area(pegsF(), n[0], n[1], n[2])), numbers(21, 21))
	}
	line := api.Pegs{Posts: []api.Post{{}, {}, {}}}
	same(t, "one place", wide(peg.Area(line, 0, 1, 2)), numbers(0, 0))
}

func TestBack(t *testing.T) {
	same(t, "F 1", wide(peg.Back(pegsF(), 1)), numbers(4, 4))
	same(t, "F 0", wide(peg.Back(pegsF(), 0)), zeros(api.ErrRefuse, 2))
	same(t, "G 1", wide(peg.Back(pegsG(), 1)), numbers(1, 7*7+12*12))
	same(t, "nowhere to go", wide(peg.Back(api.Pegs{Posts: []api.Post{{}}}, 0)), zeros(api.ErrRefuse, 2))
}

func TestProof(t *testing.T) {
	same(t, "F 1", number(peg.Proof(pegsF(), 1)), numbers(3))
	same(t, "F 0", number(peg.Proof(pegsF(), 0)), zeros(api.ErrNone, 1))
	same(t, "G 1", number(peg.Proof(pegsG(), 1)), zeros(api.ErrNone, 1))
	same(t, "H 1", number(peg.Proof(pegsH(), 1)), zeros(api.ErrNone, 1))
	p := pegsF()
	// The lengths 1 and 3 are the same one, so 0 1 is less than 0 3.
	p.Lengths = append(p.Lengths, p.Lengths[1])
	same(t, "the least set", number(peg.Proof(p, 1)), numbers(3))
	// What clashes proves nothing, but does not spoil the proof by others.
	p.Lengths = append([]api.Length{chain(0, 1, 30, 30)}, p.Lengths...)
	same(t, "a clash beside it", number(peg.Proof(p, 1)), numbers(6))
	p.Lengths = p.Lengths[:1]
	same(t, "a clash alone", number(peg.Proof(p, 1)), zeros(api.ErrNone, 1))
}

// calls returns what each function answers, with numbers of pegs that are such, and the count of its numbers.
func calls(p api.Pegs, a, b, c int) map[string]answer {
	return map[string]answer{
		"Moved":  moved(p),
		"Where":  where(p, a),
		"Places": number(peg.Places(p, a)),
		"Apart":  wide(peg.Apart(p, a, b)),
		"Area":   wide(peg.Area(p, a, b, c)),
		"Back":   wide(peg.Back(p, a)),
		"Proof":  number(peg.Proof(p, a)),
	}
}

// allZero expects an error with nothing beside it of the functions, but for some.
func allZero(t *testing.T, what string, got map[string]answer, e api.Errno, but ...string) {
	t.Helper()
	for _, name := range but {
		delete(got, name)
	}
	for name, a := range got {
		same(t, what+" "+name, a, zeros(e, len(a.numbers)))
	}
}

func TestNotValid(t *testing.T) {
	huge := int(^uint(0) >> 1)
	for name, change := range map[string]func(p *api.Pegs){
		"side below 0":      func(p *api.Pegs) { p.Side = -1 },
		"side too long":     func(p *api.Pegs) { p.Side = api.PegSide + 1 },
		"post not in field": func(p *api.Pegs) { p.Side = 4 },
		"too many posts":    func(p *api.Pegs) { p.Posts = append(p.Posts, api.Post{}, api.Post{}) },
		"x too wide":        func(p *api.Pegs) { p.Posts[0].X = span(0, 3) },
		"y too wide":        func(p *api.Pegs) { p.Posts[0].Y = span(0, 3) },
		"x below 0":         func(p *api.Pegs) { p.Posts[2].X = span(-1, 0) },
		"y below 0":         func(p *api.Pegs) { p.Posts[2].Y = span(-1, 0) },
		"y beyond the side": func(p *api.Pegs) { p.Posts[2].Y = span(12, 13) },
		"x upside down":     func(p *api.Pegs) { p.Posts[1].X = span(5, 4) },
		"y upside down":     func(p *api.Pegs) { p.Posts[1].Y = span(1, 0) },
		"huge post":         func(p *api.Pegs) { p.Posts[1].X = span(-huge-1, huge) },
		"too many lengths": func(p *api.Pegs) {
			p.Lengths = append(p.Lengths, pegsF().Lengths...)
			p.Lengths = append(p.Lengths, p.Lengths[0])
		},
		"a length to itself": func(p *api.Pegs) { p.Lengths[0].Second = 0 },
		"first is no peg":    func(p *api.Pegs) { p.Lengths[1].First = 3 },
		"first is below 0":   func(p *api.Pegs) { p.Lengths[1].First = -1 },
		"second is no peg":   func(p *api.Pegs) { p.Lengths[1].Second = 3 },
		"second is below 0":  func(p *api.Pegs) { p.Lengths[1].Second = -1 },
		"links below 0":      func(p *api.Pegs) { p.Lengths[2].Links = span(-1, 5) },
		"links too many":     func(p *api.Pegs) { p.Lengths[2].Links = span(5, api.PegLinks+1) },
		"links upside down":  func(p *api.Pegs) { p.Lengths[2].Links = span(8, 7) },
		"huge links":         func(p *api.Pegs) { p.Lengths[2].Links = span(-huge-1, huge) },
	} {
		p := pegsF()
		change(&p)
		allZero(t, name, calls(p, 0, 1, 2), api.ErrArg)
		allZero(t, name+", numbers too", calls(p, -1, 3, 3), api.ErrArg)
	}
}

// TestNotValidAlone: a side, and a length, are looked at although there are no posts.
func TestNotValidAlone(t *testing.T) {
	for name, p := range map[string]api.Pegs{
		"side below 0":  {Side: -1},
		"side too long": {Side: api.PegSide + 1},
		"a length":      {Lengths: []api.Length{chain(0, 1, 0, 0)}},
	} {
		allZero(t, name, calls(p, 0, 1, 2), api.ErrArg)
	}
}

func TestLimits(t *testing.T) {
	p := api.Pegs{Side: api.PegSide, Posts: make([]api.Post, api.PegPosts)}
	p.Posts[3] = post(api.PegSide-api.PegWide, api.PegSide, api.PegSide-api.PegWide, api.PegSide)
	for range api.PegLengths {
		p.Lengths = append(p.Lengths, chain(3, 0, 0, api.PegLinks))
	}
	if _, _, e := peg.Moved(p); e != api.OK {
		t.Error(e)
	}
}

func TestNoSuchPeg(t *testing.T) {
	clash := pegsF()
	clash.Lengths = []api.Length{chain(0, 1, 30, 30)}
	for name, p := range map[string]api.Pegs{"F": pegsF(), "clash": clash} {
		for _, n := range []int{-1, 3, int(^uint(0) >> 1), -int(^uint(0)>>1) - 1} {
			allZero(t, name, calls(p, n, 1, 2), api.ErrRange, "Moved")
			same(t, name, wide(peg.Apart(p, 0, n)), zeros(api.ErrRange, 2))
			same(t, name, wide(peg.Area(p, 0, n, 2)), zeros(api.ErrRange, 2))
			same(t, name, wide(peg.Area(p, 0, 1, n)), zeros(api.ErrRange, 2))
		}
		for _, n := range [][3]int{{0, 0, 1}, {0, 1, 0}, {1, 0, 0}, {2, 2, 2}} {
			same(t, name, wide(peg.Area(p, n[0], n[1], n[2])), zeros(api.ErrRange, 2))
		}
	}
	allZero(t, "no pegs", calls(api.Pegs{}, 0, 0, 0), api.ErrRange, "Moved")
}

func TestClash(t *testing.T) {
	p := pegsF()
	p.Lengths = []api.Length{chain(0, 1, 30, 30)}
	got := calls(p, 0, 1, 2)
	same(t, "Proof", got["Proof"], zeros(api.ErrNone, 1))
	allZero(t, "clash", got, api.ErrClash, "Proof")
	same(t, "a peg and itself", wide(peg.Apart(p, 1, 1)), zeros(api.ErrClash, 2))
	// The clash comes ahead of the refusal, although the peg 2 was moved in no truth.
	same(t, "Back", wide(peg.Back(p, 2)), zeros(api.ErrClash, 2))
}

func TestNilAndEmpty(t *testing.T) {
	p := pegsG()
	p.Lengths = nil
	q := pegsG()
	q.Lengths = []api.Length{}
	if a, b := calls(p, 0, 1, 2), calls(q, 0, 1, 2); !reflect.DeepEqual(a, b) {
		t.Error(a, b)
	}
	empty := api.Pegs{Posts: []api.Post{}, Lengths: []api.Length{}}
	same(t, "no pegs", moved(empty), moved(api.Pegs{}))
}

func TestArgumentsStay(t *testing.T) {
	p := pegsF()
	calls(p, 0, 1, 2)
	if !reflect.DeepEqual(p, pegsF()) {
		t.Error(p)
	}
}
