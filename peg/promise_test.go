package peg_test

import (
	"math"
	"math/rand/v2"
	"reflect"
	"slices"
	"testing"

	"furrowworks/api"
	"furrowworks/peg"
)

// TestOracle holds all answers against those of the oracle (P1.1 to P1.6).
func TestOracle(t *testing.T) {
	r := dice(1)
	clashes, proofs := 0, 0
	for range 400 {
		p := some(r, 3, 3, 4)
		all := facts(p)
		if len(all) == 0 {
			clashes++
		}
		same(t, "Moved", moved(p), wantMoved(all))
		for n := range p.Posts {
			compareOne(t, p, all, n)
			set, e := proof(p, n)
			if e == api.OK {
				proofs++
			}
			same(t, "Proof", number(peg.Proof(p, n)), number(set, e))
			for m := range p.Posts {
				compareFar(t, p, all, n, m)
			}
		}
		if t.Failed() {
			t.Fatal(p)
		}
	}
	if clashes < 10 || proofs < 10 {
		t.Error("the pegs are too tame", clashes, proofs)
	}
}

// TestOracleOfFour is TestOracle for four pegs, which are too many for all proofs.
func TestOracleOfFour(t *testing.T) {
	r := dice(2)
	for range 60 {
		p := some(r, 2, 4, 6)
		all := facts(p)
		same(t, "Moved", moved(p), wantMoved(all))
		for n := range p.Posts {
			compareOne(t, p, all, n)
			for m := range p.Posts {
				compareFar(t, p, all, n, m)
			}
		}
		if t.Failed() {
			t.Fatal(p)
		}
	}
}

func wantMoved(all []fact) answer {
	if len(all) == 0 {
		return zeros(api.ErrClash, 2)
	}
	a := numbers(0, 0)
	for _, f := range all {
		if f.moved < 0 {
			a.numbers[1] = 1
		} else {
			a.numbers[0] |= 1 << f.moved
		}
	}
	return a
}

func compareOne(t *testing.T, p api.Pegs, all []fact, n int) {
	t.Helper()
	e := api.OK
	if len(all) == 0 {
		e = api.ErrClash
	}
	x := reach(all, func(f fact) int { return f.at[n].x })
	y := reach(all, func(f fact) int { return f.at[n].y })
	same(t, "Where", where(p, n), spans(e, x, y))
	seen := map[spot]bool{}
	var when []fact
	for _, f := range all {
		seen[f.at[n]] = true
		if f.moved == n {
			when = append(when, f)
		}
	}
	same(t, "Places", number(peg.Places(p, n)), number(len(seen), e))
	if e == api.OK && len(when) == 0 {
		e = api.ErrRefuse
	}
	back := reach(when, func(f fact) int { return home(f.at[n], p.Posts[n]) })
	same(t, "Back", wide(peg.Back(p, n)), spans(e, back))
}

func compareFar(t *testing.T, p api.Pegs, all []fact, a, b int) {
	t.Helper()
	e := api.OK
	if len(all) == 0 {
		e = api.ErrClash
	}
	far := reach(all, func(f fact) int { return square(f.at[a], f.at[b]) })
	same(t, "Apart", wide(peg.Apart(p, a, b)), spans(e, far))
	for c := range p.Posts {
		if a == b || b == c || c == a {
			continue
		}
		area := reach(all, func(f fact) int { return twice(f.at[a], f.at[b], f.at[c]) })
		same(t, "Area", wide(peg.Area(p, a, b, c)), spans(e, area))
	}
}

// truly returns a truth of a large field, and pegs that tell what is so of it: one peg at most is not at its post.
func truly(r *rand.Rand) (fact, api.Pegs) {
	side := 3 + r.IntN(api.PegSide-2)
	p := api.Pegs{Side: side}
	f := fact{moved: -1}
	n := 2 + r.IntN(3)
	for range n {
		s := spot{r.IntN(side + 1), r.IntN(side + 1)}
		f.at = append(f.at, s)
		p.Posts = append(p.Posts, api.Post{X: round(r, s.x, 1, side), Y: round(r, s.y, 1, side)})
	}
	if i := r.IntN(n + 1); i < n {
		p.Posts[i] = post(0, 1, 0, 1)
		if f.at[i].x > 1 || f.at[i].y > 1 {
			f.moved = i
		}
	}
	for range r.IntN(api.PegLengths) {
		p.Lengths = append(p.Lengths, trueLength(r, f, n))
	}
	return f, p
}

// round returns a span that contains a number, and others that are at most so far from it.
func round(r *rand.Rand, n, far, most int) api.Span {
	return span(max(0, n-r.IntN(far+1)), min(most, n+r.IntN(far+1)))
}

// trueLength returns a length that is so.
func trueLength(r *rand.Rand, f fact, n int) api.Length {
	a := r.IntN(n)
	b := (a + 1 + r.IntN(n-1)) % n
	exact := math.Sqrt(float64(square(f.at[a], f.at[b])))
	lo, hi := int(math.Floor(exact)), int(math.Ceil(exact))
	return chain(a, b, max(0, lo-r.IntN(2)), min(api.PegLinks, hi+r.IntN(2)))
}

func hold(t *testing.T, name string, n int, s api.Span, e api.Errno) {
	t.Helper()
	if e != api.OK || !in(n, s) {
		t.Errorf("%s: %d is not in %v (%d)", name, n, s, e)
	}
}

// TestTrue: what is true is within what is told (P1.7).
func TestTrue(t *testing.T) {
	r := dice(3)
	proved := 0
	for range 150 {
		f, p := truly(r)
		pegs, none, e := peg.Moved(p)
		if e != api.OK || f.moved < 0 && !none || f.moved >= 0 && pegs&(1<<f.moved) == 0 {
			t.Error("Moved", f, pegs, none, e)
		}
		for a, s := range f.at {
			x, y, e := peg.Where(p, a)
			hold(t, "Where", s.x, x, e)
			hold(t, "Where", s.y, y, e)
			b := (a + 1) % len(f.at)
			far, e := peg.Apart(p, a, b)
			hold(t, "Apart", square(s, f.at[b]), far, e)
			if c := (a + 2) % len(f.at); c != a {
				area, e := peg.Area(p, a, b, c)
				hold(t, "Area", twice(s, f.at[b], f.at[c]), area, e)
			}
			if a == f.moved {
				back, e := peg.Back(p, a)
				hold(t, "Back", home(s, p.Posts[a]), back, e)
			}
			if _, e := peg.Proof(p, a); e == api.OK {
				proved++
				if f.moved != a {
					t.Error("Proof", f, a)
				}
			}
		}
		if t.Failed() {
			t.Fatal(f, p)
		}
	}
	if proved < 5 {
		t.Error("too few proofs", proved)
	}
}

// TestNeeded: without any of its lengths a proof is none, and with them alone it is one (P1.7).
func TestNeeded(t *testing.T) {
	r := dice(4)
	found := 0
	for range 150 {
		_, p := truly(r)
		for n := range p.Posts {
			set, e := peg.Proof(p, n)
			if e != api.OK {
				continue
			}
			found++
			if pegs, none, e := peg.Moved(only(p, set)); pegs != 1<<n || none || e != api.OK {
				t.Fatal(p, n, set, pegs, none, e)
			}
			for i := range p.Lengths {
				if set&(1<<i) == 0 {
					continue
				}
				if pegs, none, _ := peg.Moved(only(p, set&^(1<<i))); pegs == 1<<n && !none {
					t.Fatal(p, n, set, i)
				}
			}
		}
	}
	if found < 5 {
		t.Error("too few proofs", found)
	}
}

// TestNoLength: if no length was taken, each peg that has somewhere to go can have been moved (P1.7).
func TestNoLength(t *testing.T) {
	r := dice(5)
	for range 200 {
		p := only(some(r, 4, 4, 0), 0)
		want := 0
		for i, q := range p.Posts {
			if (q.X.Hi-q.X.Lo+1)*(q.Y.Hi-q.Y.Lo+1) < (p.Side+1)*(p.Side+1) {
				want |= 1 << i
			}
		}
		same(t, "Moved", moved(p), numbers(want, 1))
	}
}

// TestMore: whatever is known better, nothing is told less exactly (P1.8).
func TestMore(t *testing.T) {
	r := dice(6)
	for range 100 {
		f, p := truly(r)
		longer := p
		longer.Lengths = append(slices.Clone(p.Lengths), trueLength(r, f, len(f.at)))
		notLess(t, p, longer)
		before, _, _ := peg.Moved(p)
		if after, _, e := peg.Moved(longer); e != api.OK || after&^before != 0 {
			t.Error("Moved", before, after, e)
		}
		if len(p.Lengths) > 0 {
			narrower := p
			narrower.Lengths = slices.Clone(p.Lengths)
			narrower.Lengths[0].Links = shrink(r, p.Lengths[0].Links)
			notLess(t, p, narrower)
		}
		tighter := p
		tighter.Posts = slices.Clone(p.Posts)
		i := r.IntN(len(p.Posts))
		tighter.Posts[i] = api.Post{X: shrink(r, p.Posts[i].X), Y: shrink(r, p.Posts[i].Y)}
		notLess(t, p, tighter)
		if t.Failed() {
			t.Fatal(f, p)
		}
	}
}

// shrink returns a part of a span.
func shrink(r *rand.Rand, s api.Span) api.Span {
	lo := s.Lo + r.IntN(s.Hi-s.Lo+1)
	return span(lo, lo+r.IntN(s.Hi-lo+1))
}

// notLess expects that no place, distance or triangle of b is told less exactly than that of a, unless b has no truth.
func notLess(t *testing.T, a, b api.Pegs) {
	t.Helper()
	if _, _, e := peg.Moved(b); e == api.ErrClash {
		return
	}
	inside := func(name string, w, n answer) {
		t.Helper()
		for i := 0; i < len(w.numbers); i += 2 {
			if n.e != api.OK || n.numbers[i] < w.numbers[i] || n.numbers[i+1] > w.numbers[i+1] {
				t.Error(name, w, n)
			}
		}
	}
	for i := range a.Posts {
		j := (i + 1) % len(a.Posts)
		inside("Where", where(a, i), where(b, i))
		inside("Apart", wide(peg.Apart(a, i, j)), wide(peg.Apart(b, i, j)))
		if k := (i + 2) % len(a.Posts); k != i {
			inside("Area", wide(peg.Area(a, i, j, k)), wide(peg.Area(b, i, j, k)))
		}
		many, _ := peg.Places(a, i)
		if few, e := peg.Places(b, i); e != api.OK || few > many {
			t.Error("Places", many, few, e)
		}
	}
}

// TestOtherNumbers: if pegs are numbered otherwise, only their numbers change (P1.8).
func TestOtherNumbers(t *testing.T) {
	r := dice(7)
	for range 60 {
		_, p := truly(r)
		order := r.Perm(len(p.Posts))
		q := api.Pegs{Side: p.Side, Posts: make([]api.Post, len(p.Posts))}
		for i, to := range order {
			q.Posts[to] = p.Posts[i]
		}
		for _, l := range p.Lengths {
			q.Lengths = append(q.Lengths, api.Length{First: order[l.First], Second: order[l.Second], Links: l.Links})
		}
		a := moved(p)
		set := 0
		for i, to := range order {
			set |= a.numbers[0] >> i & 1 << to
		}
		a.numbers[0] = set
		same(t, "Moved", moved(q), a)
		sameSizes(t, p, q, order)
		for i, to := range order {
			same(t, "Where", where(q, to), where(p, i))
			same(t, "Places", number(peg.Places(q, to)), number(peg.Places(p, i)))
			same(t, "Back", wide(peg.Back(q, to)), wide(peg.Back(p, i)))
			same(t, "Proof", number(peg.Proof(q, to)), number(peg.Proof(p, i)))
		}
	}
}

// sameSizes expects the same distances and triangles; order is how the pegs of p are numbered in q.
func sameSizes(t *testing.T, p, q api.Pegs, order []int) {
	t.Helper()
	for i := range order {
		j := (i + 1) % len(order)
		same(t, "Apart", wide(peg.Apart(q, order[i], order[j])), wide(peg.Apart(p, i, j)))
		if k := (i + 2) % len(order); k != i {
			same(t, "Area", wide(peg.Area(q, order[i], order[j], order[k])), wide(peg.Area(p, i, j, k)))
		}
	}
}

// TestTurned: it makes no difference to distances and triangles from where the field is looked at (P1.8).
func TestTurned(t *testing.T) {
	r := dice(8)
	for range 60 {
		_, p := truly(r)
		round := func(s api.Span) api.Span { return span(p.Side-s.Hi, p.Side-s.Lo) }
		turned, mirrored := p, p
		turned.Posts, mirrored.Posts = nil, nil
		var order []int
		for i, q := range p.Posts {
			turned.Posts = append(turned.Posts, api.Post{X: round(q.X), Y: round(q.Y)})
			mirrored.Posts = append(mirrored.Posts, api.Post{X: q.Y, Y: q.X})
			order = append(order, i)
		}
		for _, q := range []api.Pegs{turned, mirrored} {
			sameSizes(t, p, q, order)
			same(t, "Moved", moved(q), moved(p))
		}
	}
}

// TestOrderOfLengths: the order of lengths, and of their pegs, makes no difference but to their numbers (P1.8).
func TestOrderOfLengths(t *testing.T) {
	r := dice(9)
	for range 60 {
		_, p := truly(r)
		q := p
		q.Lengths = slices.Clone(p.Lengths)
		for i, l := range q.Lengths {
			q.Lengths[i] = api.Length{First: l.Second, Second: l.First, Links: l.Links}
		}
		for i := range p.Posts {
			j, k := (i+1)%len(p.Posts), (i+2)%len(p.Posts)
			if a, b := calls(p, i, j, k), calls(q, i, j, k); !reflect.DeepEqual(a, b) {
				t.Fatal(p, a, b)
			}
			slices.Reverse(q.Lengths)
			a, b := calls(p, i, j, k), calls(q, i, j, k)
			sameCount(t, a["Proof"], b["Proof"])
			delete(a, "Proof")
			delete(b, "Proof")
			if !reflect.DeepEqual(a, b) {
				t.Fatal(p, a, b)
			}
			slices.Reverse(q.Lengths)
		}
	}
}

// sameCount expects proofs with as many lengths.
func sameCount(t *testing.T, a, b answer) {
	t.Helper()
	count := func(n int) (bits int) {
		for ; n > 0; n &= n - 1 {
			bits++
		}
		return bits
	}
	if a.e != b.e || count(a.numbers[0]) != count(b.numbers[0]) {
		t.Error("Proof", a, b)
	}
}

// TestAgain: the same call gives the same (P11).
func TestAgain(t *testing.T) {
	r := dice(10)
	for range 20 {
		_, p := truly(r)
		if a, b := calls(p, 0, 1, 2), calls(p, 0, 1, 2); !reflect.DeepEqual(a, b) {
			t.Fatal(p, a, b)
		}
	}
}
