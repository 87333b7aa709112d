package team_test

import (
	"math/rand/v2"
	"reflect"
	"slices"
	"testing"

	"furrowworks/api"
	"furrowworks/team"
)

// small is a team and a plot of which all truths can be written down, and the hardness of the ground in each of them.
func small(r *rand.Rand, size, minutes int) (api.TeamHorses, api.TeamPlot, [][]int) {
	for {
		g, _ := nature(r, 3, []int{0, 1, 2, 30}[r.IntN(4)], []int{0, 1, 3}[r.IntN(3)])
		lands := landsOf(g, 300)
		if len(lands) > 300 {
			continue
		}
		p := plot(g, steps(r, g.Long, r.IntN(size+1), minutes)...)
		full := 1 + r.IntN(20)
		h := api.TeamHorses{Strength: around(r, r.IntN(full+1), 2, full), Loss: around(r, r.IntN(4), 1, 100), Gain: around(r, r.IntN(4), 1, 1000), Full: full}
		return h, p, lands
	}
}

// TestOracle holds the answers about small teams and plots against the oracle (P6.1, P6.2, P6.3, P6.5).
func TestOracle(t *testing.T) {
	r := dice(1)
	var comes [3]int
	fails := map[bool]int{}
	refused, open := 0, 0
	for range 1500 {
		h, p, lands := small(r, 6, 5)
		truths := truthsOf(h, lands)
		n := comesOf(truths, h.Full, p.Steps)
		comes[n]++
		same(t, "Comes", number(team.Comes(h, p)), numbers(n))
		for i := range len(p.Steps) + 1 {
			left := leftOf(truths, h.Full, p.Steps[:i])
			open += sign(left.Lo < left.Hi)
			same(t, "Left", spanned(team.Left(h, p, i)), spanned(left, api.OK))
		}
		want := failsOf(truths, h.Full, p.Steps)
		same(t, "Fails", failed(team.Fails(h, p)), want)
		if want.e == api.OK {
			fails[want.numbers[1] == 1]++
		}
		least := leastOf(h, lands, p.Steps)
		refused += sign(least.e == api.ErrRefuse)
		same(t, "Least", number(team.Least(h, p)), least)
		if t.Failed() {
			t.Fatalf("%+v %+v", h, p)
		}
	}
	if min(comes[0], comes[1], comes[2], fails[true], fails[false], refused, open) < 100 {
		t.Error("the teams are too much alike", comes, fails, refused, open)
	}
}

// TestRestsOracle holds rests against the oracle (P6.4).
func TestRestsOracle(t *testing.T) {
	r := dice(2)
	refused, idle, rests := 0, 0, 0
	for range 1500 {
		h, p, lands := small(r, 3, 0)
		want := restsOf(truthsOf(h, lands), h.Full, p.Steps)
		same(t, "Rests", listed(team.Rests(h, p)), want)
		if t.Failed() {
			t.Fatalf("%+v %+v", h, p)
		}
		switch {
		case want.e != api.OK:
			refused++
		case slices.ContainsFunc(want.numbers, func(n int) bool { return n > 0 }):
			rests++
		default:
			idle++
		}
	}
	if min(refused, idle, rests) < 200 {
		t.Error("the teams are too much alike", refused, idle, rests)
	}
}

// someTeams are teams and plots of which some suit each other.
func someTeams(r *rand.Rand, teams, plots int) ([]api.TeamHorses, []api.TeamPlot) {
	var h []api.TeamHorses
	for range teams {
		n := r.IntN(7)
		h = append(h, with(exact(0, 1, 1, 9), n, n+r.IntN(4)))
	}
	var p []api.TeamPlot
	for range plots {
		x := takes(1 + r.IntN(6))
		if r.IntN(3) == 0 {
			x.Steps = append(x.Steps, rest(1+r.IntN(3)), turn(0, r.IntN(5)))
		}
		p = append(p, x)
	}
	return h, p
}

// safeAt tells for each plot which teams are safe at it.
func safeAt(teams []api.TeamHorses, plots []api.TeamPlot) [][]bool {
	var safe [][]bool
	for _, p := range plots {
		var row []bool
		for _, h := range teams {
			n, _ := team.Comes(h, p)
			row = append(row, n == 2)
		}
		safe = append(safe, row)
	}
	return safe
}

// TestSendOracle holds who is sent where, and who cannot be, against the oracle (P6.6, P6.7).
func TestSendOracle(t *testing.T) {
	r := dice(3)
	sent, sizes := 0, map[int]int{}
	for range 1500 {
		teams, plots := someTeams(r, r.IntN(7), r.IntN(7))
		safe := safeAt(teams, plots)
		want := sendOf(safe, len(teams))
		short := shortOf(safe, len(teams))
		if (want.e == api.OK) != (short.e == api.ErrNone) {
			t.Fatal("the oracle contradicts itself", safe)
		}
		same(t, "Send", listed(team.Send(teams, plots)), want)
		same(t, "Short", number(team.Short(teams, plots)), short)
		if t.Failed() {
			t.Fatalf("%+v %+v", teams, plots)
		}
		sent += sign(want.e == api.OK)
		if want.e != api.OK {
			sizes[len(bitsOf(short.numbers[0]))]++
		}
	}
	if min(sent, sizes[1], sizes[2], sizes[3], sizes[4]) < 20 {
		t.Error("the teams are too much alike", sent, sizes)
	}
}

// bitsOf are the elements of a set.
func bitsOf(set int) []int {
	var all []int
	for n := range 10 {
		if set>>n&1 == 1 {
			all = append(all, n)
		}
	}
	return all
}

// great is a team and a plot of any size, and a truth of them; rests are allowed or not.
func great(r *rand.Rand, rests bool) (api.TeamHorses, api.TeamPlot, truth) {
	g, land := nature(r, api.SoilLong, 60, 20)
	minutes := 0
	if rests {
		minutes = 30
	}
	p := plot(g, steps(r, g.Long, r.IntN(7), minutes)...)
	x := truth{hard: land, loss: r.IntN(11), gain: r.IntN(20)}
	// Here the strength is near to what the steps take.
	need := max(0, -slices.Min(x.way(api.TeamStrength, p.Steps)))
	x.strength = min(api.TeamStrength, need*(r.IntN(121)+20)/100)
	full := min(api.TeamStrength, x.strength+r.IntN(need+10))
	return api.TeamHorses{Strength: around(r, x.strength, 1+need/20, full), Loss: around(r, x.loss, 1, 100), Gain: around(r, x.gain, 2, 1000), Full: full}, p, x
}

// TestTrue: however strong a team truly is, and however hard the ground, what is told is so (P6.8, P2).
func TestTrue(t *testing.T) {
	r := dice(4)
	var comes [3]int
	surely := 0
	for range 3000 {
		h, p, x := great(r, true)
		at := x.failsAt(h.Full, p.Steps)
		for i, n := range x.way(h.Full, p.Steps) {
			if s, e := team.Left(h, p, i); e != api.OK || !in(n, s) {
				t.Fatalf("Left: %+v %+v %+v: %d %v %d", h, p, x, n, s, e)
			}
		}
		n, e := team.Comes(h, p)
		if e != api.OK || n == 2 && at >= 0 || n == 0 && at < 0 {
			t.Fatalf("Comes: %+v %+v %+v: %d %d", h, p, x, n, at)
		}
		comes[n]++
		step, is, e := team.Fails(h, p)
		if (e == api.ErrNone) != (n == 2) || e == api.OK && at >= 0 && at < step || e == api.OK && is && at != step {
			t.Fatalf("Fails: %+v %+v %+v: %d %v %d", h, p, x, step, is, at)
		}
		surely += sign(is)
	}
	if min(comes[0], comes[1], comes[2], surely) < 200 {
		t.Error("the teams are too much alike", comes, surely)
	}
}

// isSafe asks whether a team is safe at a plot with so many minutes ahead of each furrow.
func isSafe(t *testing.T, h api.TeamHorses, p api.TeamPlot, minutes []int) bool {
	t.Helper()
	p.Steps = rested(p.Steps, minutes)
	n, e := team.Comes(h, p)
	if e != api.OK {
		t.Fatal(h, p, e)
	}
	return n == 2
}

// TestRestsSuit: with the rests that are told a team is safe, and with a minute less before any furrow it is not (P6.8, P6).
func TestRestsSuit(t *testing.T) {
	r := dice(5)
	refused, rests := 0, 0
	for range 3000 {
		h, p, x := great(r, false)
		list, e := team.Rests(h, p)
		if e != api.OK {
			refused++
			// So many minutes make a team fresh, if it gains anything.
			if h.Full <= api.TeamRest && isSafe(t, h, p, slices.Repeat([]int{api.TeamRest}, len(p.Steps))) {
				t.Fatalf("%+v %+v %d", h, p, e)
			}
			continue
		}
		if len(list) != len(p.Steps) || slices.ContainsFunc(list, func(n int) bool { return n < 0 }) {
			t.Fatal(list)
		}
		if len(list) == 0 || slices.Max(list) > api.TeamRest {
			continue
		}
		if !isSafe(t, h, p, list) || x.failsAt(h.Full, rested(p.Steps, list)) >= 0 {
			t.Fatalf("%+v %+v %v", h, p, list)
		}
		for i, n := range list {
			if n == 0 {
				continue
			}
			rests++
			less := slices.Clone(list)
			less[i]--
			if isSafe(t, h, p, less) {
				t.Fatalf("%+v %+v %v %v", h, p, list, less)
			}
		}
	}
	if min(refused, rests) < 500 {
		t.Error("the teams are too much alike", refused, rests)
	}
}

// TestLeastSuits: with the least strength a team is safe, and with less it is not (P6.5, P6).
func TestLeastSuits(t *testing.T) {
	r := dice(6)
	refused, some := 0, 0
	for range 3000 {
		h, p, _ := great(r, true)
		n, e := team.Least(h, p)
		full, _ := team.Comes(with(h, h.Full, h.Full), p)
		if (e == api.OK) != (full == 2) {
			t.Fatalf("%+v %+v %d %d", h, p, n, e)
		}
		if e != api.OK {
			refused++
			continue
		}
		enough, _ := team.Comes(with(h, n, n), p)
		less := 0
		if n > 0 {
			some++
			less, _ = team.Comes(with(h, n-1, n-1), p)
		}
		is, _ := team.Comes(h, p)
		if enough != 2 || less == 2 || (is == 2) != (h.Strength.Lo >= n) {
			t.Fatalf("%+v %+v %d %d %d", h, p, n, enough, less)
		}
	}
	if min(refused, some) < 500 {
		t.Error("the teams are too much alike", refused, some)
	}
}

// TestSentSafely: a team that is sent somewhere never fails there (P6.8, P6), and for the plots of Short there are too few teams, but not for fewer of them.
func TestSentSafely(t *testing.T) {
	r := dice(7)
	sent, short := 0, 0
	for range 800 {
		var teams []api.TeamHorses
		var plots []api.TeamPlot
		var truths []truth
		for range 1 + r.IntN(6) {
			h, p, x := great(r, true)
			h.Full = api.TeamStrength
			teams, plots, truths = append(teams, h), append(plots, p), append(truths, x)
		}
		plots, truths = plots[:1+r.IntN(len(plots))], truths[:len(plots)]
		list, e := team.Send(teams, plots)
		if e == api.OK {
			sent++
			checkSent(t, r, teams, plots, truths, list)
			continue
		}
		set, e := team.Short(teams, plots)
		if e != api.OK || set <= 0 || set >= 1<<len(plots) {
			t.Fatal(teams, plots, set, e)
		}
		short++
		checkShort(t, teams, plots, bitsOf(set))
	}
	if min(sent, short) < 100 {
		t.Error("the teams are too much alike", sent, short)
	}
}

// checkSent goes with each team through its plot, in a truth of both.
func checkSent(t *testing.T, r *rand.Rand, teams []api.TeamHorses, plots []api.TeamPlot, truths []truth, list []int) {
	t.Helper()
	if len(list) != len(plots) {
		t.Fatal(teams, plots, list)
	}
	pick := func(s api.Span) int { return s.Lo + r.IntN(s.Hi-s.Lo+1) }
	for i, n := range list {
		h := teams[n]
		x := truth{truths[i].hard, pick(h.Strength), pick(h.Loss), pick(h.Gain)}
		if x.failsAt(h.Full, plots[i].Steps) >= 0 || slices.Contains(list[:i], n) {
			t.Fatal(teams, plots, list, x)
		}
	}
}

// checkShort counts the teams that are safe at some of the plots, and sends teams to all of these plots but one.
func checkShort(t *testing.T, teams []api.TeamHorses, plots []api.TeamPlot, set []int) {
	t.Helper()
	var some []api.TeamPlot
	for _, n := range set {
		some = append(some, plots[n])
	}
	if teamsOf(safeAt(teams, some), len(teams), 1<<len(some)-1) >= len(some) {
		t.Fatal("there are enough teams", teams, some)
	}
	for i := range some {
		if _, e := team.Send(teams, slices.Delete(slices.Clone(some), i, i+1)); e != api.OK {
			t.Fatal("fewer are in the way", teams, some, i, e)
		}
	}
}

// better is a team that is stronger, loses less, or gains more, or a plot with a longer rest.
func better(r *rand.Rand, h api.TeamHorses, p api.TeamPlot) (api.TeamHorses, api.TeamPlot) {
	p.Steps = slices.Clone(p.Steps)
	switch r.IntN(4) {
	case 0:
		n := r.IntN(h.Full - h.Strength.Hi + 1)
		h.Strength = span(h.Strength.Lo+n, h.Strength.Hi+n)
	case 1:
		n := r.IntN(h.Loss.Lo + 1)
		h.Loss = span(h.Loss.Lo-n, h.Loss.Hi-n)
	case 2:
		n := r.IntN(5)
		h.Gain = span(h.Gain.Lo+n, h.Gain.Hi+n)
	case 3:
		for i, s := range p.Steps {
			if s.Rest > 0 {
				p.Steps[i].Rest += r.IntN(10)
			}
		}
	}
	return h, p
}

// TestBetter: a team that is better, or rests longer, has no less strength behind any step, and what was safe is safe (P6.9).
func TestBetter(t *testing.T) {
	r := dice(8)
	more, safer := 0, 0
	for range 1500 {
		h, p, _ := great(r, true)
		g, q := better(r, h, p)
		for i := range len(p.Steps) + 1 {
			a, _ := team.Left(h, p, i)
			b, e := team.Left(g, q, i)
			if e != api.OK || b.Lo < a.Lo || b.Hi < a.Hi {
				t.Fatalf("%+v %+v %+v %+v: %v %v", h, p, g, q, a, b)
			}
			more += sign(a != b)
		}
		a, _ := team.Comes(h, p)
		b, _ := team.Comes(g, q)
		if b < a {
			t.Fatalf("%+v %+v %+v %+v: %v %v", h, p, g, q, a, b)
		}
		safer += sign(b > a)
	}
	if min(more, safer) < 100 {
		t.Error("the teams are too much alike", more, safer)
	}
}

// narrower is a team or a ground of which more is known, in which a truth is still one.
func narrower(r *rand.Rand, h api.TeamHorses, p api.TeamPlot, x truth) (api.TeamHorses, api.TeamPlot) {
	narrow := func(s *api.Span, n int) {
		*s = span(s.Lo+r.IntN(n-s.Lo+1), n+r.IntN(s.Hi-n+1))
	}
	p.Ground.Pits = slices.Clone(p.Ground.Pits)
	switch n := r.IntN(5); n {
	case 0:
		narrow(&h.Strength, x.strength)
	case 1:
		narrow(&h.Loss, x.loss)
	case 2:
		narrow(&h.Gain, x.gain)
	case 3:
		d := &p.Ground.Pits[r.IntN(len(p.Ground.Pits))]
		narrow(&d.Hard, x.hard[d.At])
	case 4:
		at := r.IntN(p.Ground.Long + 1)
		if len(p.Ground.Pits) == api.SoilPits || slices.ContainsFunc(p.Ground.Pits, func(d api.Pit) bool { return d.At == at }) {
			break
		}
		s := around(r, x.hard[at], 5, api.SoilHard)
		p.Ground.Pits = append(p.Ground.Pits, pit(at, s.Lo, s.Hi))
		slices.SortFunc(p.Ground.Pits, func(a, b api.Pit) int { return a.At - b.At })
	}
	return h, p
}

// TestNarrower: with a pit more, or a narrower span, nothing is told less exactly (P6.9, P2).
func TestNarrower(t *testing.T) {
	r := dice(9)
	closer, decided := 0, 0
	for i := range 1500 {
		h, p, x := great(r, i%2 == 0)
		g, q := h, p
		for range 4 {
			g, q = narrower(r, g, q, x)
		}
		for i := range len(p.Steps) + 1 {
			a, _ := team.Left(h, p, i)
			b, e := team.Left(g, q, i)
			if e != api.OK || b.Lo < a.Lo || b.Hi > a.Hi {
				t.Fatalf("%+v %+v %+v %+v: %v %v", h, p, g, q, a, b)
			}
			closer += sign(a != b)
		}
		a, _ := team.Comes(h, p)
		b, _ := team.Comes(g, q)
		m, surely, before := team.Fails(h, p)
		n, still, behind := team.Fails(g, q)
		if a != 1 && a != b || before != api.OK && behind == api.OK || behind == api.OK && n < m || surely && (n != m || !still) {
			t.Fatalf("%+v %+v %+v %+v: %d %d %d %d", h, p, g, q, a, b, m, n)
		}
		decided += sign(a != b) + sign(surely != still)
		checkNeeds(t, h, g, p, q)
	}
	if min(closer, decided) < 100 {
		t.Error("the teams are too much alike", closer, decided)
	}
}

// checkNeeds holds what a team needs at a plot against what is needed when more is known.
func checkNeeds(t *testing.T, h, g api.TeamHorses, p, q api.TeamPlot) {
	t.Helper()
	m, before := team.Least(h, p)
	n, behind := team.Least(g, q)
	if before == api.OK && (behind != api.OK || n > m) {
		t.Fatalf("Least: %+v %+v %+v %+v: %d %d", h, p, g, q, m, n)
	}
	list, before := team.Rests(h, p)
	more, behind := team.Rests(g, q)
	if before == api.OK && behind != api.OK {
		t.Fatalf("Rests: %+v %+v %+v %+v: %v %v", h, p, g, q, list, more)
	}
	sum, sums := 0, 0
	for i := range list {
		sum += list[i]
		sums += more[i]
		if sums > sum {
			t.Fatalf("Rests: %+v %+v %+v %+v: %v %v", h, p, g, q, list, more)
		}
	}
}

// TestNarrowerSend: when more is known, teams that could be sent still can be, and no fewer plots are in the way (P6.9).
func TestNarrowerSend(t *testing.T) {
	r := dice(13)
	freed, still := 0, 0
	for range 1600 {
		teams, plots := someTeams(r, r.IntN(7), 1+r.IntN(6))
		known := slices.Clone(teams)
		for i, h := range known {
			known[i] = with(h, h.Strength.Lo+r.IntN(h.Strength.Hi-h.Strength.Lo+1), h.Strength.Hi)
		}
		list, before := team.Send(teams, plots)
		other, behind := team.Send(known, plots)
		set, _ := team.Short(teams, plots)
		more, _ := team.Short(known, plots)
		if before == api.OK && (behind != api.OK || slices.Compare(other, list) > 0) || behind != api.OK && len(bitsOf(more)) < len(bitsOf(set)) {
			t.Fatal(teams, known, plots, list, other, set, more)
		}
		freed += sign(before != behind)
		still += sign(behind != api.OK)
	}
	if min(freed, still) < 50 {
		t.Error("the teams are too much alike", freed, still)
	}
}

// TestAnyOrder: the order of plots, and of teams, makes no difference to whether teams can be sent, and to how many plots are in the way (P6.9, P11).
func TestAnyOrder(t *testing.T) {
	r := dice(10)
	sent, short := 0, 0
	for range 800 {
		teams, plots := someTeams(r, r.IntN(7), r.IntN(7))
		_, e := team.Send(teams, plots)
		set, _ := team.Short(teams, plots)
		others, places := slices.Clone(teams), slices.Clone(plots)
		r.Shuffle(len(others), func(i, j int) { others[i], others[j] = others[j], others[i] })
		r.Shuffle(len(places), func(i, j int) { places[i], places[j] = places[j], places[i] })
		_, f := team.Send(others, places)
		other, _ := team.Short(others, places)
		if e != f || len(bitsOf(set)) != len(bitsOf(other)) {
			t.Fatal(teams, plots, e, f, set, other)
		}
		sent += sign(e == api.OK)
		short += sign(e != api.OK)
	}
	if min(sent, short) < 100 {
		t.Error("the teams are too much alike", sent, short)
	}
}

// TestAgain: the same call gives the same (P11).
func TestAgain(t *testing.T) {
	r := dice(11)
	for range 100 {
		h, p, _ := great(r, r.IntN(2) == 0)
		if a, b := ask(h, p, len(p.Steps)), ask(h, p, len(p.Steps)); !reflect.DeepEqual(a, b) {
			t.Fatalf("%+v %+v: %v %v", h, p, a, b)
		}
	}
}

// TestAnything: all functions end, and do not panic, whatever they are given (P1, R2).
func TestAnything(t *testing.T) {
	r := dice(12)
	ends := []int{-huge - 1, -huge, -601, -1, 0, 1, 2, 12, 40, 41, 100, 101, 600, 601, 1000, 1001, 10000, 10001, 1 << 62, huge - 1, huge}
	some := func(most int) int {
		if r.IntN(30) == 0 {
			return ends[r.IntN(len(ends))]
		}
		return r.IntN(most + 1)
	}
	edges := func(most int) api.Span {
		lo := some(most)
		least := min(max(lo, 0), most)
		return span(lo, least+some(most-least))
	}
	good := 0
	for range 5000 {
		full := some(10000)
		h := api.TeamHorses{Strength: edges(min(max(full, 0), 10000)), Loss: edges(100), Gain: edges(1000), Full: full}
		p := plot(api.Ground{Long: 10 + some(30), Rise: some(1000), Change: some(20)})
		if r.IntN(2) == 0 {
			d := pit(some(5), 0, 1000)
			d.Hard, d.Clay = edges(1000), edges(20)
			p.Ground.Pits = []api.Pit{d}
		}
		for range r.IntN(5) {
			p.Steps = append(p.Steps, api.TeamStep{From: some(3), To: 3 + some(7), Rest: some(1) * some(600)})
		}
		answers := ask(h, p, some(4))
		good += sign(answers["Comes"].e == api.OK)
		for f, a := range answers {
			if a.e != api.OK && slices.ContainsFunc(a.numbers, func(n int) bool { return n != 0 }) {
				t.Fatal(h, p, f, a)
			}
		}
	}
	if good < 300 {
		t.Error("too few teams were valid", good)
	}
}
