package lot_test

import (
	"math/bits"
	"reflect"
	"slices"
	"testing"

	"furrowworks/api"
	"furrowworks/lot"
)

// TestOracle holds all answers against those of the oracle (P3.1 to P3.7).
func TestOracle(t *testing.T) {
	r := dice(1)
	empty, long := 0, 0
	for i := range 400 {
		l := some(r, 1+i%6)
		lawful := lawfulOf(l)
		if len(lawful) == 0 {
			empty++
		}
		long = max(long, len(lawful))
		compare(t, l, lawful)
		compareDraws(t, l, lawful)
		if t.Failed() {
			t.Fatalf("%+v", l)
		}
	}
	if empty < 20 || empty > 200 || long < 500 {
		t.Error("the lots are too much alike", empty, long)
	}
}

// TestFull is TestOracle for as many ploughmen as there can be.
func TestFull(t *testing.T) {
	r := dice(2)
	for i := range 10 {
		l := some(r, 7+i%2)
		lawful := lawfulOf(l)
		compare(t, l, lawful)
		for range 5 {
			if len(lawful) == 0 {
				break
			}
			n := r.IntN(len(lawful))
			same(t, "Nth", drew(lot.Nth(l, n)), drawing(lawful[n]...))
			same(t, "Place", number(lot.Place(l, lawful[n])), numbers(n))
			same(t, "Swaps", swaps(l, lawful[n]), wantSwaps(l, lawful[n]))
		}
		if t.Failed() {
			t.Fatalf("%+v", l)
		}
	}
}

// compare holds what is told of lots as a whole.
func compare(t *testing.T, l api.Lots, lawful [][]int) {
	t.Helper()
	same(t, "Count", number(lot.Count(l)), numbers(len(lawful)))
	same(t, "Nth", drew(lot.Nth(l, len(lawful))), none(api.ErrNone, 0))
	broken, draw := leastOf(l)
	same(t, "Least", least(l), answer{[]int{broken}, draw, api.OK})
	for man := range l.Men {
		set := 0
		for plot := range l.Men {
			n := oftenIn(lawful, man, plot)
			if n > 0 {
				set |= 1 << plot
			}
			same(t, "Often", number(lot.Often(l, man, plot)), numbers(n))
		}
		same(t, "Can", number(lot.Can(l, man)), numbers(set))
	}
	for _, seed := range []int{0, 1, 77, 32768, api.LotSeeds} {
		want := drew(drawnBy(lawful, seed), api.OK)
		if len(lawful) == 0 {
			want = none(api.ErrNone, 0)
		}
		same(t, "Draw", drew(lot.Draw(l, seed)), want)
	}
}

// compareDraws holds what is told of single draws.
func compareDraws(t *testing.T, l api.Lots, lawful [][]int) {
	t.Helper()
	all := orders(len(l.Men))
	for i := 0; i < len(all); i += 1 + len(all)/30 {
		draw := all[i]
		wrong := faultsOf(l, draw)
		if len(wrong) > 0 {
			same(t, "Check", check(l, draw), numbers(wrong[0].plot, wrong[0].rule))
			same(t, "Place", number(lot.Place(l, draw)), none(api.ErrNone, 1))
			same(t, "Swaps", swaps(l, draw), none(api.ErrNone, 0))
		}
	}
	for n := 0; n < len(lawful); n += 1 + len(lawful)/30 {
		draw := lawful[n]
		same(t, "Check", check(l, draw), none(api.ErrNone, 2))
		same(t, "Nth", drew(lot.Nth(l, n)), drawing(draw...))
		same(t, "Place", number(lot.Place(l, draw)), numbers(n))
		same(t, "Swaps", swaps(l, draw), wantSwaps(l, draw))
	}
}

func wantSwaps(l api.Lots, draw []int) answer {
	var a answer
	for _, pair := range swapsOf(l, draw) {
		a.draw = append(a.draw, pair[0], pair[1])
	}
	return a
}

// TestSeeds: what is drawn by any seed is lawful, and each lawful draw is drawn (P3.9, P4).
func TestSeeds(t *testing.T) {
	lawful := lawfulOf(sample())
	drawn := make([]int, len(lawful))
	for seed := range api.LotSeeds + 1 {
		draw, e := lot.Draw(sample(), seed)
		n, f := lot.Place(sample(), draw)
		if e != api.OK || f != api.OK {
			t.Fatal(seed, draw, e, f)
		}
		if seed%64 == 0 && !slices.Equal(draw, drawnBy(lawful, seed)) {
			t.Fatal(seed, draw)
		}
		drawn[n]++
	}
	if slices.Contains(drawn, 0) {
		t.Error("some draw never comes", drawn)
	}
}

// TestOrder: each lawful draw has one place in their order (P3.9).
func TestOrder(t *testing.T) {
	r := dice(3)
	for i := range 40 {
		l := some(r, 4+i%3)
		count, _ := lot.Count(l)
		var before []int
		for n := range count {
			draw, e := lot.Nth(l, n)
			place, f := lot.Place(l, draw)
			if e != api.OK || f != api.OK || place != n || slices.Compare(before, draw) >= 0 {
				t.Fatalf("%+v: %d, %v, %v, %d", l, n, before, draw, place)
			}
			same(t, "Check", check(l, draw), none(api.ErrNone, 2))
			before = draw
		}
	}
}

// TestSums: of all lawful draws each has somebody on each plot; Can is where somebody comes at all (P3.9).
func TestSums(t *testing.T) {
	r := dice(4)
	for i := range 60 {
		l := some(r, 1+i%api.LotMen)
		count, _ := lot.Count(l)
		for a := range l.Men {
			plots, men := 0, 0
			for b := range l.Men {
				n, _ := lot.Often(l, a, b)
				plots += n
				n, _ = lot.Often(l, b, a)
				men += n
			}
			if set, _ := lot.Can(l, a); plots != count || men != count || (set == 0) != (count == 0) {
				t.Fatalf("%+v: %d, %d of plots, %d of men, %b", l, count, plots, men, set)
			}
		}
	}
}

// TestNoneBroken: if a draw is lawful Least breaks none, and otherwise one at least (P3.9).
func TestNoneBroken(t *testing.T) {
	r := dice(5)
	for i := range 100 {
		l := some(r, 1+i%api.LotMen)
		count, _ := lot.Count(l)
		broken, draw, e := lot.Least(l)
		if e != api.OK || (broken == 0) != (count > 0) || broken != len(faultsOf(l, draw)) {
			t.Fatalf("%+v: %d lawful ones, %d broken by %v", l, count, broken, draw)
		}
		if broken == 0 {
			same(t, "Nth", drew(lot.Nth(l, 0)), drawing(draw...))
		}
	}
}

// milder returns lots with a rule less for somebody, or with a plot less of the worst.
func milder(l api.Lots, man, what int) api.Lots {
	l.Men = slices.Clone(l.Men)
	switch what {
	case 0:
		l.Men[man].Club = 0
	case 1:
		l.Men[man].Left = false
	case 2:
		l.Men[man].Novice = false
	case 3:
		l.Worst &^= 1 << man
	}
	return l
}

// TestMilder: with a rule less, or a plot less of the worst, no lawful draw is lost (P3.9).
func TestMilder(t *testing.T) {
	r := dice(6)
	for i := range 200 {
		l := some(r, 1+i%5)
		m := milder(l, r.IntN(len(l.Men)), i%4)
		before, _ := lot.Count(l)
		if after, _ := lot.Count(m); after < before {
			t.Fatalf("%+v, %+v: %d, %d", l, m, before, after)
		}
		a, _, _ := lot.Least(l)
		if b, _, _ := lot.Least(m); b > a {
			t.Fatalf("%+v, %+v: %d, %d broken", l, m, a, b)
		}
		for n := range before {
			draw, _ := lot.Nth(l, n)
			same(t, "Check", check(m, draw), none(api.ErrNone, 2))
		}
	}
}

// turned returns lots whose plots are counted from the other end.
func turned(l api.Lots) api.Lots {
	l.Worst = int(bits.Reverse(uint(l.Worst)) >> (bits.UintSize - len(l.Men)))
	return l
}

// TestTurned: if the plots are counted from the other end, as many draws are lawful, and in each of them everybody has the same plot (P3.9).
func TestTurned(t *testing.T) {
	r := dice(7)
	for i := range 100 {
		l := some(r, 1+i%api.LotMen)
		m := turned(l)
		a, _ := lot.Count(l)
		same(t, "Count", number(lot.Count(m)), numbers(a))
		man, plot := r.IntN(len(l.Men)), r.IntN(len(l.Men))
		n, _ := lot.Often(l, man, plot)
		same(t, "Often", number(lot.Often(m, man, len(l.Men)-1-plot)), numbers(n))
		broken, _, _ := lot.Least(l)
		if b, _, _ := lot.Least(m); b != broken {
			t.Errorf("Least: %d, %d", broken, b)
		}
		if a > 0 {
			draw, _ := lot.Nth(l, r.IntN(a))
			slices.Reverse(draw)
			same(t, "Check", check(m, draw), none(api.ErrNone, 2))
		}
		if t.Failed() {
			t.Fatalf("%+v", l)
		}
	}
}

// TestSwapBack: those who changed places can do so again.
func TestSwapBack(t *testing.T) {
	r := dice(8)
	for i := range 100 {
		l := some(r, 2+i%7)
		draw, e := lot.Draw(l, i)
		if e != api.OK {
			continue
		}
		pairs, _ := lot.Swaps(l, draw)
		for _, p := range pairs {
			back, e := lot.Swaps(l, swapped(draw, p[0], p[1]))
			if e != api.OK || !slices.Contains(back, p) {
				t.Fatalf("%+v, %v: %v, %v, %d", l, draw, p, back, e)
			}
		}
	}
}

// TestAgain: the same call gives the same, whatever was asked in between (P11).
func TestAgain(t *testing.T) {
	r := dice(9)
	for i := range 30 {
		l, other := some(r, 5), some(r, 1+i%api.LotMen)
		draw := r.Perm(5)
		a := calls(l, draw, 1, 2, i, i)
		calls(other, list(0), 0, 0, i, 0)
		if b := calls(l, draw, 1, 2, i, i); !reflect.DeepEqual(a, b) {
			t.Fatalf("%+v: %v, %v", l, a, b)
		}
	}
}
