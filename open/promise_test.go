package open_test

import (
	"math/rand/v2"
	"slices"
	"testing"

	"furrowworks/api"
	"furrowworks/open"
)

// compare holds what is told of the plans of a field against all plans that fit it.
func compare(t *testing.T, f api.Field, plans []api.Plan) {
	t.Helper()
	same(t, "Count", number(open.Count(f)), numbers(len(plans)))
	same(t, "Widths", listed(open.Widths(f)), numbers(widthsOf(plans)...))
	if len(plans) == 0 {
		same(t, "Best", chosen(open.Best(f)), none(api.ErrNone, 7))
		return
	}
	best := bestOf(f, plans)
	same(t, "Best", chosen(open.Best(f)), chosen(best, passesOf(f, best), api.OK))
}

// TestOracle holds the plans of fields against the oracle (P5.3 to P5.5).
func TestOracle(t *testing.T) {
	r := dice(1)
	without := 0
	var shared [6]int
	for i := range 2000 {
		f := some(r, 60+i%300, 1+i%12)
		plans := plansOf(f)
		compare(t, f, plans)
		if t.Failed() {
			t.Fatalf("%+v", f)
		}
		if len(plans) == 0 {
			without++
			continue
		}
		shared[sharedOf(f, plans)]++
	}
	if without < 100 {
		t.Error("the fields are too much alike", without)
	}
	for n, times := range shared {
		if times < 10 {
			t.Error("the plans are too much alike", n, shared)
		}
	}
}

// TestFull is TestOracle for fields as wide, and as loose, as they can be.
func TestFull(t *testing.T) {
	for side := 1; side <= 4; side++ {
		f := api.Field{Wide: 2000 - side, Furrow: span(1, 60), Side: side, Opening: span(0, 120), Finish: span(0, 120)}
		compare(t, f, plansOf(f))
		f.Opening, f.Finish = span(0, 0), span(3, 3)
		compare(t, f, plansOf(f))
		f.Furrow = span(1, 1)
		compare(t, f, plansOf(f))
	}
}

// changed is a plan one or two of whose numbers are a little less or more.
func changed(r *rand.Rand, p api.Plan) api.Plan {
	all := []*int{&p.Opening, &p.Rounds, &p.Left, &p.Right, &p.Furrow, &p.Finish}
	n := r.IntN(7) - 3
	*all[r.IntN(6)] += n
	if r.IntN(2) == 0 {
		*all[r.IntN(6)] -= n
	}
	return p
}

// TestFitsOracle holds plans that fit, and plans that nearly do, against the oracle (P5.1, P5.2).
func TestFitsOracle(t *testing.T) {
	r := dice(2)
	var times [2]int
	for i := range 400 {
		f := some(r, 60+i%300, 1+i%6)
		plans := plansOf(f)
		for try := 0; len(plans) > 0 && try < 60; try++ {
			p := plans[r.IntN(len(plans))]
			if try%4 > 0 {
				p = changed(r, p)
			}
			want := none(api.ErrRange, 1)
			fits := 0
			if fitsOf(f, p) {
				want = numbers(passesOf(f, p))
				fits = 1
			}
			times[fits]++
			same(t, "Fits", told(open.Fits(f, p)), numbers(fits))
			same(t, "Passes", number(open.Passes(f, p)), want)
			if t.Failed() {
				t.Fatalf("%+v %+v", f, p)
			}
		}
	}
	if times[0] < 3000 || times[1] < 3000 {
		t.Error("the plans are too much alike", times)
	}
}

// TestNearestOracle holds the nearest widths against the oracle (P5.6).
func TestNearestOracle(t *testing.T) {
	r := dice(3)
	own, other, less, more := 0, 0, 0, 0
	for i := range 400 {
		f := some(r, 2000, i%10)
		f.Furrow = spanOf(r, 5, 60, i%5/3)
		if i%8 == 0 {
			f.Wide = 1960 + r.IntN(41)
		}
		a, b := nearestOf(f)
		same(t, "Nearest", both(open.Nearest(f)), numbers(a, b))
		if t.Failed() {
			t.Fatalf("%+v", f)
		}
		switch {
		case a < 0:
			less++
		case b < 0:
			more++
		case a == b:
			own++
		default:
			other++
		}
	}
	f := api.Field{Wide: 10, Furrow: span(30, 60), Side: 2, Opening: span(90, 120), Finish: span(80, 120)}
	for range 10 {
		a, b := nearestOf(f)
		if a < 0 && b > 0 {
			less++
		}
		same(t, "Nearest", both(open.Nearest(f)), numbers(a, b))
		f.Wide += 16
	}
	if own < 50 || other < 50 || less < 10 || more < 5 {
		t.Error("the fields are too much alike", own, other, less, more)
	}
}

// pick is a field with some plan that fits it.
func pick(r *rand.Rand, widest, spread int) (api.Field, api.Plan) {
	for {
		f := some(r, widest, spread)
		if plans := plansOf(f); len(plans) > 0 {
			return f, plans[r.IntN(len(plans))]
		}
	}
}

// TestLeftOracle holds the finish against the oracle (P5.7).
func TestLeftOracle(t *testing.T) {
	r := dice(4)
	for range 500 {
		f, p := pick(r, 400, 5)
		by := spanOf(r, -10, 10, 20)
		left := leftOf(f, p, by)
		same(t, "Left", spanned(open.Left(f, p, by)), spanned(left, api.OK))
		same(t, "as planned", spanned(open.Left(f, p, span(0, 0))), numbers(10*p.Finish, 10*p.Finish))
		if t.Failed() {
			t.Fatalf("%+v %+v %v", f, p, by)
		}
	}
}

// TestAimOracle holds how wide the rest must be against the oracle (P5.8).
func TestAimOracle(t *testing.T) {
	r := dice(5)
	without, inner, times := 0, 0, 0
	for range 1500 {
		f, p := pick(r, 500, 6)
		n := turnedOf(f, p)
		if n == 0 {
			same(t, "no furrows", spanned(open.Aim(f, p, 0, 0)), none(api.ErrRange, 2))
			continue
		}
		done := r.IntN(n)
		used := max(done*10*p.Furrow+r.IntN(161)-80, 0)
		if r.IntN(10) == 0 {
			used = r.IntN(20001)
		}
		want := aimOf(f, p, done, used)
		times++
		if want.e != api.OK {
			without++
		} else if want.numbers[0] > 10*f.Furrow.Lo && want.numbers[1] < 10*f.Furrow.Hi {
			inner++
		}
		same(t, "Aim", spanned(open.Aim(f, p, done, used)), want)
		same(t, "all are done", spanned(open.Aim(f, p, n, used)), none(api.ErrRange, 2))
		if t.Failed() {
			t.Fatalf("%+v %+v %d %d", f, p, done, used)
		}
	}
	if without < 100 || inner < 100 || times-without-inner < 100 {
		t.Error("the fields are too much alike", without, inner, times)
	}
}

// TestBestFills: the best plan fills its plot exactly, and there is one just if the nearest widths are the plot's own (P5.10, P5).
func TestBestFills(t *testing.T) {
	r := dice(6)
	with, without := 0, 0
	for i := range 600 {
		f := some(r, 2000, i%20)
		p, passes, e := open.Best(f)
		n, _ := open.Count(f)
		widths, _ := open.Widths(f)
		less, more, _ := open.Nearest(f)
		is := e == api.OK
		if is != (n > 0) || is != (len(widths) > 0) || is != (less == f.Wide) || is != (more == f.Wide) {
			t.Fatal(f, e, n, widths, less, more)
		}
		if !is {
			without++
			continue
		}
		with++
		same(t, "the best one fits", told(open.Fits(f, p)), numbers(1))
		same(t, "its passes", number(open.Passes(f, p)), numbers(passes))
		if p.Opening+p.Finish+turnedOf(f, p)*p.Furrow != f.Wide || !slices.Contains(widths, p.Furrow) {
			t.Fatal(f, p)
		}
	}
	if with < 100 || without < 100 {
		t.Error("the fields are too much alike", with, without)
	}
}

// TestFewest: no plan that fits has fewer passes than the best one (P5.10, P5).
func TestFewest(t *testing.T) {
	r := dice(7)
	more := 0
	for i := range 300 {
		f := some(r, 400, i%8)
		_, passes, _ := open.Best(f)
		for _, p := range plansOf(f) {
			if n, e := open.Passes(f, p); n < passes || e != api.OK {
				t.Fatal(f, p, n, passes, e)
			} else if n > passes {
				more++
			}
		}
	}
	if more < 1000 {
		t.Error("the plans are too much alike", more)
	}
}

// TestBetween: a field of one of the nearest widths has a plan, and none between has (P5.10, P5).
func TestBetween(t *testing.T) {
	r := dice(8)
	times := 0
	for range 60 {
		f := some(r, 2000, 2)
		f.Furrow = spanOf(r, 20, 60, 1)
		less, more, _ := open.Nearest(f)
		from, to := less, more
		if less < 0 {
			from = 0
		}
		if more < 0 {
			to = 2000
		}
		for wide := from; wide <= to; wide++ {
			g := f
			g.Wide = wide
			n, _ := open.Count(g)
			if is := wide == less || wide == more; is != (n > 0) {
				t.Fatal(f, less, more, wide, n)
			}
			times++
		}
	}
	if times < 300 {
		t.Error("the widths are too near", times)
	}
}

// wider is a field one of whose spans is wider.
func wider(r *rand.Rand, f api.Field) api.Field {
	less, more := r.IntN(5), r.IntN(5)
	switch r.IntN(3) {
	case 0:
		f.Furrow = span(max(f.Furrow.Lo-less, 1), min(f.Furrow.Hi+more, 60))
	case 1:
		f.Opening = span(max(f.Opening.Lo-less, 0), min(f.Opening.Hi+more, 120))
	case 2:
		f.Finish = span(max(f.Finish.Lo-less, 0), min(f.Finish.Hi+more, 120))
	}
	return f
}

// TestWider: with wider spans no plan is lost, and the best one takes no more passes (P5.10, P2).
func TestWider(t *testing.T) {
	r := dice(9)
	more, fewer := 0, 0
	for range 600 {
		f, p := pick(r, 400, 6)
		g := wider(r, f)
		same(t, "a plan", told(open.Fits(g, p)), numbers(1))
		a, _ := open.Count(f)
		b, _ := open.Count(g)
		_, m, _ := open.Best(f)
		_, n, e := open.Best(g)
		if b < a || n > m || e != api.OK {
			t.Fatal(f, g, a, b, m, n, e)
		}
		if b > a {
			more++
		}
		if n < m {
			fewer++
		}
		widths, _ := open.Widths(g)
		old, _ := open.Widths(f)
		for _, n := range old {
			if !slices.Contains(widths, n) {
				t.Fatal(f, g, n)
			}
		}
		if t.Failed() {
			t.Fatal(f, g, p)
		}
	}
	if more < 100 || fewer < 50 {
		t.Error("the fields are too much alike", more, fewer)
	}
}

// TestTurned: however wide furrows turn out, the finish is as told, and whoever ploughs the rest as wide as is told has a finish that may be (P5.10, P2).
func TestTurned(t *testing.T) {
	r := dice(10)
	times := 0
	for range 1500 {
		f, p := pick(r, 500, 6)
		by := spanOf(r, -10, 10, 20)
		done, used, n := 0, 0, turnedOf(f, p)
		for ; done < n; done++ {
			if s, e := open.Aim(f, p, done, used); e == api.OK {
				times++
				checkRest(t, f, p, done, used, s)
			}
			used += 10*p.Furrow + by.Lo + r.IntN(by.Hi-by.Lo+1)
		}
		left, _ := open.Left(f, p, by)
		if finish := 10*(f.Wide-p.Opening) - used; !contains(left, finish) {
			t.Fatal("Left", f, p, by, left, finish)
		}
		for done := range n {
			if s, e := open.Aim(f, p, done, done*10*p.Furrow); e != api.OK || !contains(s, 10*p.Furrow) {
				t.Fatal("as planned", f, p, done, s, e)
			}
		}
		if t.Failed() {
			t.Fatal(f, p)
		}
	}
	if times < 1000 {
		t.Error("too little was ploughed", times)
	}
}

// checkRest ploughs the rest with each width that is told, and with those beside.
func checkRest(t *testing.T, f api.Field, p api.Plan, done, used int, s api.Span) {
	t.Helper()
	for width := s.Lo - 1; width <= s.Hi+1; width++ {
		finish := 10*(f.Wide-p.Opening) - used
		for range turnedOf(f, p) - done {
			finish -= width
		}
		may := 10*f.Finish.Lo <= finish && finish <= 10*f.Finish.Hi && 10*f.Furrow.Lo <= width && width <= 10*f.Furrow.Hi
		if may != contains(s, width) {
			t.Error("Aim", f, p, done, used, s, width, finish)
		}
	}
}

// TestAnything: all functions end, and do not panic, whatever they are given (P1, R2).
func TestAnything(t *testing.T) {
	r := dice(11)
	ends := []int{-huge - 1, -huge, -11, -10, -1, 0, 1, 2, 3, 4, 5, 6, 7, 10, 60, 61, 120, 121, 2000, 2001, 20000, 20001, 1 << 61, huge - 1, huge}
	end := func() int { return ends[r.IntN(len(ends))] }
	some := func(least, most int) int {
		if r.IntN(12) == 0 {
			return end()
		}
		return least + r.IntN(most-least+1)
	}
	edges := func(least, most int) api.Span {
		lo := some(least, most)
		return span(lo, some(min(max(lo, least), most), most))
	}
	good := 0
	for range 2000 {
		f := api.Field{Wide: some(0, 2000), Furrow: edges(1, 60), Side: some(1, 4), Opening: edges(0, 120), Finish: edges(0, 120)}
		p := plan(end(), end(), end(), end(), end(), end())
		answers := []answer{spanned(open.Left(f, p, span(end(), end()))), spanned(open.Aim(f, p, end(), end()))}
		if best, _, e := open.Best(f); e == api.OK {
			good++
			answers = append(answers, spanned(open.Left(f, best, span(end(), end()))), spanned(open.Aim(f, best, end(), end())))
		}
		for _, a := range ask(f, p, r.IntN(2) == 0) {
			answers = append(answers, a)
		}
		for _, a := range answers {
			if a.e != api.OK && slices.ContainsFunc(a.numbers, func(n int) bool { return n != 0 }) {
				t.Fatal(f, p, a)
			}
		}
	}
	if good < 500 {
		t.Error("too few fields were valid", good)
	}
}
