package team_test

import (
	"reflect"
	"slices"
	"testing"

	"furrowworks/api"
	"furrowworks/team"
)

const huge = int(^uint(0) >> 1)

func span(lo, hi int) api.Span { return api.Span{Lo: lo, Hi: hi} }

// ground is the ground of chapter 2.
func ground() api.Ground {
	return api.Ground{Long: 10, Rise: 50, Change: 2, Pits: []api.Pit{
		{At: 2, Hard: span(300, 320), Sand: span(10, 12), Silt: span(4, 6), Clay: span(4, 5)},
		{At: 8, Hard: span(500, 520), Sand: span(5, 6), Silt: span(3, 5), Clay: span(9, 11)},
	}}
}

func pit(at, lo, hi int) api.Pit {
	part := span(0, api.SoilParts)
	return api.Pit{At: at, Hard: span(lo, hi), Sand: part, Silt: part, Clay: part}
}

// flat is a ground that is as hard as this at each of its places.
func flat(long, lo, hi int) api.Ground {
	return api.Ground{Long: long, Pits: []api.Pit{pit(0, lo, hi)}}
}

// clash is a ground without a truth; so is mud, whose parts alone clash.
func clash() api.Ground {
	g := flat(4, 100, 100)
	g.Pits = append(g.Pits, pit(1, 200, 200))
	return g
}

func mud() api.Ground {
	g := flat(4, 100, 100)
	g.Pits[0].Clay, g.Pits[0].Sand = span(11, 20), span(10, 20)
	return g
}

func turn(from, to int) api.TeamStep { return api.TeamStep{From: from, To: to} }

func rest(minutes int) api.TeamStep { return api.TeamStep{Rest: minutes} }

func plot(g api.Ground, steps ...api.TeamStep) api.TeamPlot {
	return api.TeamPlot{Ground: g, Steps: steps}
}

// plotA and plotB are the plots of the chapter's examples, bare is A without its rest.
func plotA() api.TeamPlot { return plot(ground(), turn(4, 6), rest(2), turn(5, 5)) }
func plotB() api.TeamPlot { return plot(ground(), turn(5, 5)) }
func bare() api.TeamPlot  { return plot(ground(), turn(4, 6), turn(5, 5)) }

// takes is a plot whose furrows take so much of the strength of a team with a loss of 1.
func takes(strengths ...int) api.TeamPlot {
	p := plot(flat(40, 100, 100))
	for _, n := range strengths {
		p.Steps = append(p.Steps, turn(0, n-1))
	}
	return p
}

// teamT and teamU are the teams of the chapter's examples.
func teamT() api.TeamHorses {
	return api.TeamHorses{Strength: span(100, 110), Loss: span(5, 6), Gain: span(10, 12), Full: 120}
}

func teamU() api.TeamHorses { return with(teamT(), 90, 95) }

// with is a team with another strength at first.
func with(t api.TeamHorses, lo, hi int) api.TeamHorses {
	t.Strength = span(lo, hi)
	return t
}

// exact is a team of which all is known.
func exact(strength, loss, gain, full int) api.TeamHorses {
	return api.TeamHorses{Strength: span(strength, strength), Loss: span(loss, loss), Gain: span(gain, gain), Full: full}
}

// plain is a team that loses 1, and gains nothing.
func plain(strength int) api.TeamHorses { return exact(strength, 1, 0, strength) }

// answer is what a function returns, as numbers that can be compared.
type answer struct {
	numbers []int
	e       api.Errno
}

func numbers(n ...int) answer { return answer{numbers: n} }

func none(e api.Errno, zeros int) answer { return answer{make([]int, zeros), e} }

func number(n int, e api.Errno) answer { return answer{[]int{n}, e} }

func listed(l []int, e api.Errno) answer { return answer{l, e} }

func spanned(s api.Span, e api.Errno) answer { return answer{[]int{s.Lo, s.Hi}, e} }

func failed(step int, surely bool, e api.Errno) answer {
	if surely {
		return answer{[]int{step, 1}, e}
	}
	return answer{[]int{step, 0}, e}
}

func same(t *testing.T, name string, got, want answer) {
	t.Helper()
	if !slices.Equal(got.numbers, want.numbers) || got.e != want.e {
		t.Errorf("%s: got %v, want %v", name, got, want)
	}
}

// TestExamples are the chapter's examples (P6.1 to P6.7).
func TestExamples(t *testing.T) {
	same(t, "Comes of T at A", number(team.Comes(teamT(), plotA())), numbers(2))
	same(t, "Comes of U at A", number(team.Comes(teamU(), plotA())), numbers(1))
	for steps, want := range []api.Span{span(100, 110), span(15, 57), span(35, 81), span(6, 63)} {
		same(t, "Left of T at A", spanned(team.Left(teamT(), plotA(), steps)), spanned(want, api.OK))
	}
	same(t, "Fails of T at A", failed(team.Fails(teamT(), plotA())), none(api.ErrNone, 2))
	same(t, "Fails of U at A", failed(team.Fails(teamU(), plotA())), numbers(2, 0))
	same(t, "Rests of T", listed(team.Rests(teamT(), bare())), numbers(0, 2))
	same(t, "Least of T at A", number(team.Least(teamT(), plotA())), numbers(94))
	teams := []api.TeamHorses{teamU(), teamT()}
	same(t, "Send", listed(team.Send(teams, []api.TeamPlot{plotA(), plotB()})), numbers(1, 0))
	same(t, "Send of U to A", listed(team.Send(teams[:1], []api.TeamPlot{plotA()})), none(api.ErrRefuse, 0))
	same(t, "Short", number(team.Short(teams, []api.TeamPlot{plotA(), plotB()})), none(api.ErrNone, 1))
	same(t, "Short of U", number(team.Short(teams[:1], []api.TeamPlot{plotB(), plotA()})), numbers(1<<1))
}

// TestComes: in each truth, in some, or in none (P6.1).
func TestComes(t *testing.T) {
	for _, x := range []struct {
		name string
		t    api.TeamHorses
		p    api.TeamPlot
		want int
	}{
		{"no steps", plain(0), plot(ground()), 2}, {"rests alone", plain(0), plot(ground(), rest(1), rest(600)), 2},
		{"just so", plain(5), takes(2, 3), 2}, {"one too weak", plain(4), takes(2, 3), 0}, {"too weak at once", plain(1), takes(2, 3), 0},
		{"perhaps strong", with(plain(9), 4, 5), takes(2, 3), 1}, {"surely strong", with(plain(9), 5, 9), takes(2, 3), 2}, {"surely weak", with(plain(9), 0, 4), takes(2, 3), 0},
		{"perhaps hard ground", plain(5), plot(flat(4, 100, 101), turn(0, 4)), 1}, {"soft ground", plain(5), plot(flat(4, 80, 100), turn(0, 4)), 2}, {"hard ground", plain(5), plot(flat(4, 101, 120), turn(0, 4)), 0},
		{"perhaps a great loss", api.TeamHorses{Strength: span(5, 5), Loss: span(0, 2), Full: 5}, takes(5), 1}, {"a small loss", api.TeamHorses{Strength: span(5, 5), Loss: span(0, 1), Full: 5}, takes(5), 2},
		{"perhaps a small gain", api.TeamHorses{Loss: span(1, 1), Gain: span(1, 2), Full: 5}, plot(flat(40, 100, 100), rest(2), turn(0, 3)), 1},
		{"a great gain", api.TeamHorses{Loss: span(1, 1), Gain: span(2, 3), Full: 5}, plot(flat(40, 100, 100), rest(2), turn(0, 3)), 2},
		{"full is too little", api.TeamHorses{Loss: span(1, 1), Gain: span(2, 3), Full: 3}, plot(flat(40, 100, 100), rest(2), turn(0, 3)), 0},
		{"no loss", exact(0, 0, 0, 0), plot(ground(), turn(0, 10)), 2}, {"soft as can be", exact(0, 100, 0, 0), plot(flat(40, 0, 0), turn(0, 40)), 2},
		{"a rest behind does not help", exact(4, 1, 100, 100), plot(flat(40, 100, 100), turn(0, 4), rest(10)), 0},
	} {
		same(t, x.name, number(team.Comes(x.t, x.p)), numbers(x.want))
	}
}

// TestLeft: what a furrow takes is rounded up, what a rest gives ends at Full, and strength goes on below 0 (P6.2).
func TestLeft(t *testing.T) {
	for _, x := range []struct {
		name   string
		t      api.TeamHorses
		p      api.TeamPlot
		lo, hi int
	}{
		{"no steps", with(plain(9), 3, 7), plot(ground()), 3, 7},
		{"rounded up", plain(9), plot(flat(4, 1, 1), turn(0, 0)), 8, 8}, {"just a hundred", plain(9), plot(flat(4, 100, 100), turn(0, 0)), 8, 8},
		{"a hundred and one", plain(9), plot(flat(4, 101, 101), turn(0, 0)), 7, 7}, {"rounded together", plain(9), plot(flat(4, 34, 34), turn(0, 2)), 7, 7},
		{"rounded one by one", plain(9), plot(flat(4, 34, 34), turn(0, 0), turn(1, 1), turn(2, 2)), 6, 6}, {"nothing", plain(9), plot(flat(4, 0, 0), turn(0, 4)), 9, 9},
		{"below nothing", plain(2), takes(5, 5), -8, -8}, {"a rest below nothing", exact(2, 1, 2, 9), plot(flat(4, 100, 100), turn(0, 4), rest(1)), -1, -1},
		{"full", exact(2, 1, 2, 9), plot(ground(), rest(4)), 9, 9}, {"not yet full", exact(2, 1, 2, 9), plot(ground(), rest(3)), 8, 8}, {"full again", exact(9, 1, 2, 9), plot(ground(), rest(600)), 9, 9},
		{"rests", exact(0, 1, 2, 9), plot(flat(4, 100, 100), rest(3), turn(0, 4), rest(2)), 5, 5}, {"rests together", exact(0, 1, 2, 9), plot(flat(4, 100, 100), rest(3), rest(2), turn(0, 4)), 4, 4},
		{"loss", api.TeamHorses{Strength: span(9, 9), Loss: span(1, 3), Full: 9}, takes(2), 3, 7},
		{"gain", api.TeamHorses{Gain: span(1, 3), Full: 9}, plot(ground(), rest(2)), 2, 6}, {"gain up to full", api.TeamHorses{Gain: span(1, 3), Full: 9}, plot(ground(), rest(4)), 4, 9},
		{"ground", plain(9), plot(flat(4, 100, 200), turn(0, 1)), 5, 7}, {"one place of it", plain(9), plot(api.Ground{Long: 1, Rise: 1000, Pits: []api.Pit{pit(0, 100, 100), pit(1, 700, 800)}}, turn(1, 1)), 1, 2},
		{"as much as can be", exact(0, 100, 0, 0), plot(flat(40, 1000, 1000), slices.Repeat([]api.TeamStep{turn(0, 40)}, 12)...), -492000, -492000},
	} {
		same(t, x.name, spanned(team.Left(x.t, x.p, len(x.p.Steps))), numbers(x.lo, x.hi))
		same(t, x.name, spanned(team.Left(x.t, x.p, 0)), spanned(x.t.Strength, api.OK))
	}
}

// TestFails: the first step at which it can fail, and whether it surely fails by then (P6.3).
func TestFails(t *testing.T) {
	row := plot(flat(40, 100, 100), turn(0, 1), rest(1), turn(0, 2), turn(0, 3))
	for _, x := range []struct {
		name string
		t    api.TeamHorses
		p    api.TeamPlot
		want answer
	}{
		{"no steps", plain(0), plot(ground()), none(api.ErrNone, 2)}, {"safe", plain(9), row, none(api.ErrNone, 2)}, {"just safe", exact(8, 1, 1, 9), row, none(api.ErrNone, 2)},
		{"the last one", plain(8), row, numbers(3, 1)}, {"the middle one", plain(4), row, numbers(2, 1)}, {"the first one", plain(1), row, numbers(0, 1)},
		{"perhaps the last one", with(plain(9), 8, 9), row, numbers(3, 0)}, {"perhaps the middle one", with(plain(9), 4, 9), row, numbers(2, 0)},
		{"the middle one, or behind", with(plain(9), 4, 8), row, numbers(2, 0)}, {"the first one, or behind", with(plain(9), 0, 4), row, numbers(0, 0)},
		{"by the loss", api.TeamHorses{Strength: span(3, 3), Loss: span(1, 2), Full: 9}, row, numbers(0, 0)},
		{"by the gain", api.TeamHorses{Strength: span(4, 4), Loss: span(1, 1), Gain: span(0, 9), Full: 9}, row, numbers(2, 0)},
		{"by the ground", plain(4), plot(flat(4, 100, 200), turn(0, 1), turn(0, 1), turn(0, 1)), numbers(1, 0)},
		{"by the ground, at once", plain(3), plot(flat(4, 200, 300), turn(0, 1), turn(0, 1), turn(0, 1)), numbers(0, 1)},
	} {
		same(t, x.name, failed(team.Fails(x.t, x.p)), x.want)
	}
}

// TestRests: as few minutes as can be, and of several lists the first one (P6.4).
func TestRests(t *testing.T) {
	for _, x := range []struct {
		name string
		t    api.TeamHorses
		p    api.TeamPlot
		want answer
	}{
		{"no steps", plain(0), plot(ground()), numbers()}, {"strong", plain(9), takes(2, 3, 4), numbers(0, 0, 0)}, {"strong, with a gain", exact(9, 1, 5, 9), takes(2, 3, 4), numbers(0, 0, 0)},
		{"as late as can be", exact(4, 1, 1, 20), takes(4, 1, 5), numbers(0, 1, 5)}, {"as late as can be, by the minute", exact(4, 1, 2, 20), takes(4, 1, 5), numbers(0, 1, 2)},
		{"ahead of the first one", exact(0, 1, 3, 20), takes(4, 5), numbers(2, 1)}, {"just enough", exact(0, 1, 3, 20), takes(3, 3), numbers(1, 1)},
		{"full is just enough", exact(0, 1, 2, 5), takes(5, 5, 4), numbers(3, 3, 2)}, {"full is too little", exact(0, 1, 2, 4), takes(4, 5), none(api.ErrRefuse, 0)}, {"full is too little at first", exact(4, 1, 2, 4), takes(5, 4), none(api.ErrRefuse, 0)},
		{"no gain", exact(4, 1, 0, 20), takes(4, 1), none(api.ErrRefuse, 0)}, {"no gain is needed", exact(5, 1, 0, 20), takes(4, 1), numbers(0, 0)},
		{"perhaps no gain", api.TeamHorses{Strength: span(4, 4), Loss: span(1, 1), Gain: span(0, 9), Full: 20}, takes(4, 1), none(api.ErrRefuse, 0)},
		{"perhaps a small gain", api.TeamHorses{Strength: span(4, 4), Loss: span(1, 1), Gain: span(2, 9), Full: 20}, takes(4, 4), numbers(0, 2)},
		{"perhaps weak", api.TeamHorses{Strength: span(4, 8), Loss: span(1, 1), Gain: span(2, 2), Full: 20}, takes(4, 4), numbers(0, 2)},
		{"perhaps a great loss", api.TeamHorses{Strength: span(4, 4), Loss: span(1, 2), Gain: span(2, 2), Full: 20}, takes(4, 4), numbers(2, 4)},
		{"perhaps hard ground", exact(4, 1, 2, 20), plot(flat(4, 100, 200), turn(0, 3)), numbers(2)},
		{"more minutes than a rest has", exact(0, 100, 1, 10000), plot(flat(40, 200, 200), turn(0, 40), turn(0, 40)), numbers(8200, 8200)},
		{"as much as it can be", exact(0, 100, 1, 10000), plot(flat(4, 1000, 1000), turn(0, 4), turn(0, 4), turn(0, 1)), numbers(5000, 5000, 2000)},
		{"twelve furrows", exact(0, 1, 1, 40), takes(1, 2, 3, 4, 5, 6, 7, 8, 9, 10, 11, 12), numbers(1, 2, 3, 4, 5, 6, 7, 8, 9, 10, 11, 12)},
	} {
		same(t, x.name, listed(team.Rests(x.t, x.p)), x.want)
	}
}

// TestLeast: how strong a team must be, whatever it is (P6.5).
func TestLeast(t *testing.T) {
	for _, x := range []struct {
		name string
		t    api.TeamHorses
		p    api.TeamPlot
		want answer
	}{
		{"no steps", plain(9), plot(ground()), numbers(0)}, {"some", plain(9), takes(2, 3), numbers(5)}, {"all of it", plain(5), takes(2, 3), numbers(5)}, {"more than it has", with(plain(9), 1, 2), takes(2, 3), numbers(5)},
		{"more than can be", plain(4), takes(2, 3), none(api.ErrRefuse, 1)}, {"none can be", plain(0), takes(1), none(api.ErrRefuse, 1)}, {"nothing", plain(0), plot(flat(4, 0, 0), turn(0, 0)), numbers(0)},
		{"with rests", exact(0, 1, 2, 9), plot(flat(40, 100, 100), rest(1), turn(0, 3), rest(1), turn(0, 4)), numbers(5)}, {"with a rest that is too long", exact(0, 1, 9, 9), plot(flat(40, 100, 100), turn(0, 1), rest(9), turn(0, 8)), numbers(2)},
		{"full is too little", exact(0, 1, 9, 9), plot(flat(40, 100, 100), turn(0, 1), rest(9), turn(0, 9)), none(api.ErrRefuse, 1)},
		{"a great loss", api.TeamHorses{Loss: span(1, 3), Full: 30}, takes(2, 3), numbers(15)}, {"a small gain", api.TeamHorses{Loss: span(1, 1), Gain: span(1, 3), Full: 30}, plot(flat(40, 100, 100), rest(2), turn(0, 7)), numbers(6)},
		{"hard ground", plain(30), plot(flat(4, 100, 200), turn(0, 3)), numbers(8)}, {"as strong as can be", exact(0, 100, 0, 10000), plot(flat(40, 1000, 1000), turn(0, 9)), numbers(10000)},
	} {
		same(t, x.name, number(team.Least(x.t, x.p)), x.want)
	}
}

// TestSend: the first list of different teams that are safe, or the fewest plots that are in the way, by the least number (P6.6, P6.7).
func TestSend(t *testing.T) {
	for _, x := range []struct {
		name         string
		teams, plots []int
		sent, short  answer
	}{
		{"nobody, nowhere", nil, nil, numbers(), none(api.ErrNone, 1)}, {"nowhere", []int{3}, nil, numbers(), none(api.ErrNone, 1)},
		{"nobody", nil, []int{1, 1}, none(api.ErrRefuse, 0), numbers(1)}, {"one", []int{3}, []int{3}, numbers(0), none(api.ErrNone, 1)},
		{"one too weak", []int{3}, []int{4}, none(api.ErrRefuse, 0), numbers(1)}, {"the second one", []int{3, 4}, []int{4}, numbers(1), none(api.ErrNone, 1)},
		{"the first ones", []int{9, 9, 9}, []int{1, 1}, numbers(0, 1), none(api.ErrNone, 1)}, {"one must wait", []int{9, 2}, []int{1, 5}, numbers(1, 0), none(api.ErrNone, 1)},
		{"a chain", []int{4, 3, 2, 1}, []int{1, 2, 3, 4}, numbers(3, 2, 1, 0), none(api.ErrNone, 1)}, {"as early as can be", []int{4, 9, 2, 3}, []int{1, 2, 3}, numbers(0, 1, 3), none(api.ErrNone, 1)},
		{"six", []int{6, 6, 6, 6, 6, 6}, []int{6, 6, 6, 6, 6, 6}, numbers(0, 1, 2, 3, 4, 5), none(api.ErrNone, 1)}, {"six, the last one too weak", []int{6, 6, 6, 6, 6, 5}, []int{6, 6, 6, 6, 6, 6}, none(api.ErrRefuse, 0), numbers(63)},
		{"two for one", []int{9, 1}, []int{5, 1, 5}, none(api.ErrRefuse, 0), numbers(5)}, {"two plots, one team", []int{9}, []int{1, 1}, none(api.ErrRefuse, 0), numbers(3)},
		{"one plot is enough", []int{5, 1}, []int{5, 5, 9}, none(api.ErrRefuse, 0), numbers(4)}, {"the first one of two", []int{5, 5}, []int{1, 9, 9}, none(api.ErrRefuse, 0), numbers(2)},
		{"the least number of pairs", []int{9, 1, 1, 1}, []int{1, 5, 5, 5}, none(api.ErrRefuse, 0), numbers(6)}, {"more plots than teams", []int{9, 9}, []int{1, 1, 1}, none(api.ErrRefuse, 0), numbers(7)},
		{"fewer ones ahead of lesser numbers", []int{5, 2, 2}, []int{5, 5, 2, 9}, none(api.ErrRefuse, 0), numbers(8)}, {"the least number, not the first plots", []int{9, 5, 1, 1}, []int{9, 9, 5, 5}, none(api.ErrRefuse, 0), numbers(3)},
	} {
		var teams []api.TeamHorses
		for _, n := range x.teams {
			teams = append(teams, plain(n))
		}
		var plots []api.TeamPlot
		for _, n := range x.plots {
			plots = append(plots, takes(n))
		}
		same(t, x.name, listed(team.Send(teams, plots)), x.sent)
		same(t, x.name, number(team.Short(teams, plots)), x.short)
	}
	perhaps := []api.TeamHorses{with(plain(9), 4, 9)}
	same(t, "perhaps is not enough", listed(team.Send(perhaps, []api.TeamPlot{takes(5)})), none(api.ErrRefuse, 0))
	same(t, "perhaps is not enough", number(team.Short(perhaps, []api.TeamPlot{takes(4), takes(5)})), numbers(2))
}

// ask returns what all functions answer about a team at a plot.
func ask(h api.TeamHorses, p api.TeamPlot, steps int) map[string]answer {
	teams, plots := []api.TeamHorses{h}, []api.TeamPlot{p}
	return map[string]answer{
		"Comes": number(team.Comes(h, p)),
		"Left":  spanned(team.Left(h, p, steps)),
		"Fails": failed(team.Fails(h, p)),
		"Rests": listed(team.Rests(h, p)),
		"Least": number(team.Least(h, p)),
		"Send":  listed(team.Send(teams, plots)),
		"Short": number(team.Short(teams, plots)),
	}
}

// allErr expects an error of all functions, with nothing beside it.
func allErr(t *testing.T, name string, answers map[string]answer, e api.Errno) {
	t.Helper()
	for f, a := range answers {
		if a.e != e || slices.ContainsFunc(a.numbers, func(n int) bool { return n != 0 }) || len(a.numbers) > 0 && (f == "Rests" || f == "Send") {
			t.Errorf("%s of %s: %v", f, name, a)
		}
	}
}

// TestInvalidTeams: what is not valid in a team (ErrArg), and what is just valid.
func TestInvalidTeams(t *testing.T) {
	for _, x := range []struct {
		name   string
		change func(h *api.TeamHorses)
	}{
		{"Full below 0", func(h *api.TeamHorses) { h.Full = -1 }}, {"Full too great", func(h *api.TeamHorses) { h.Full = 10001 }}, {"Full far too great", func(h *api.TeamHorses) { h.Full = huge }},
		{"Strength below 0", func(h *api.TeamHorses) { h.Strength.Lo = -1 }}, {"Strength upside down", func(h *api.TeamHorses) { h.Strength = span(101, 100) }}, {"Strength above Full", func(h *api.TeamHorses) { h.Strength.Hi = 121 }},
		{"Loss below 0", func(h *api.TeamHorses) { h.Loss.Lo = -1 }}, {"Loss upside down", func(h *api.TeamHorses) { h.Loss = span(6, 5) }}, {"Loss too great", func(h *api.TeamHorses) { h.Loss.Hi = 101 }},
		{"Gain below 0", func(h *api.TeamHorses) { h.Gain.Lo = -1 }}, {"Gain upside down", func(h *api.TeamHorses) { h.Gain = span(12, 11) }}, {"Gain too great", func(h *api.TeamHorses) { h.Gain.Hi = 1001 }},
		{"Full below Strength", func(h *api.TeamHorses) { h.Full = 109 }},
	} {
		h := teamT()
		x.change(&h)
		allErr(t, x.name, ask(h, bare(), 0), api.ErrArg)
		allErr(t, x.name, ask(h, plot(clash()), -1), api.ErrArg)
	}
	for name, h := range map[string]api.TeamHorses{
		"the least": {}, "the greatest": {Strength: span(0, 10000), Loss: span(0, 100), Gain: span(0, 1000), Full: 10000},
		"of which all is known": exact(10000, 100, 1000, 10000), "as strong as fresh": exact(110, 6, 12, 110),
	} {
		if _, e := team.Comes(h, bare()); e != api.OK {
			t.Error(name, e)
		}
	}
}

// TestInvalidPlots: what is not valid in a plot (ErrArg), and what is just valid.
func TestInvalidPlots(t *testing.T) {
	for name, p := range map[string]api.TeamPlot{
		"a ground that is not valid":     plot(api.Ground{Long: -1}),
		"a ground that is too long":      plot(api.Ground{Long: 41}, turn(0, 0)),
		"a pit that is not valid":        plot(flat(4, 100, 1001), turn(0, 0)),
		"thirteen steps":                 plot(ground(), make([]api.TeamStep, 13)...),
		"a rest below 0":                 plot(ground(), rest(-1)),
		"a rest far below 0":             plot(ground(), rest(-huge-1)),
		"a rest that is too long":        plot(ground(), rest(601)),
		"a rest that is far too long":    plot(ground(), rest(huge)),
		"a furrow before the ground":     plot(ground(), turn(-1, 4)),
		"a furrow far before the ground": plot(ground(), turn(-huge-1, 4)),
		"a furrow behind the ground":     plot(ground(), turn(4, 11)),
		"a furrow beyond the ground":     plot(ground(), turn(11, 11)),
		"a furrow that goes back":        plot(ground(), turn(5, 4)),
		"a furrow far behind the ground": plot(ground(), turn(0, huge)),
		"the last step":                  plot(ground(), turn(0, 10), rest(600), turn(0, 0), turn(0, 11)),
	} {
		allErr(t, name, ask(teamT(), p, 0), api.ErrArg)
		allErr(t, name, ask(teamT(), p, -1), api.ErrArg)
		p.Ground.Pits = append(slices.Clone(p.Ground.Pits), pit(9, 0, 0))
		allErr(t, name, ask(teamT(), p, 0), api.ErrArg)
	}
	for name, p := range map[string]api.TeamPlot{
		"no steps": plot(ground()), "twelve steps": plot(ground(), make([]api.TeamStep, 12)...), "the longest furrow": plot(ground(), turn(0, 10)), "its ends": plot(ground(), turn(0, 0), turn(10, 10)),
		"the longest rest": plot(ground(), rest(600)), "the shortest rest": plot(ground(), rest(1)), "one place": plot(flat(0, 0, 1000), turn(0, 0)),
		"a rest whose places are none": plot(ground(), api.TeamStep{From: -5, To: -9, Rest: 1}, api.TeamStep{From: huge, To: huge, Rest: 600}),
	} {
		if _, e := team.Left(teamT(), p, len(p.Steps)); e != api.OK {
			t.Error(name, e)
		}
	}
}

// TestRestIsNoFurrow: where a rest is not looked at, nothing depends on it (R8).
func TestRestIsNoFurrow(t *testing.T) {
	p := plotA()
	p.Steps[1].From, p.Steps[1].To = 99, -99
	for f, want := range ask(teamT(), plotA(), 3) {
		same(t, f, ask(teamT(), p, 3)[f], want)
	}
}

// TestErrors: which error comes first (R1), and nothing comes with it (R2).
func TestErrors(t *testing.T) {
	for name, g := range map[string]api.Ground{"hardness": clash(), "parts": mud()} {
		allErr(t, name, ask(teamT(), plot(g), 0), api.ErrClash)
		allErr(t, name, ask(teamT(), plot(g, turn(0, 4)), 1), api.ErrClash)
		allErr(t, name, ask(exact(0, 100, 0, 0), plot(g, turn(0, 4)), 1), api.ErrClash)
		same(t, "a number of steps first", spanned(team.Left(teamT(), plot(g), 1)), none(api.ErrRange, 2))
		same(t, "a rest first", listed(team.Rests(teamT(), plot(g, turn(0, 0), rest(1)))), none(api.ErrArg, 0))
	}
	for _, n := range []int{-huge - 1, -1, 4, 5, 12, huge} {
		same(t, "a number of steps", spanned(team.Left(teamT(), plotA(), n)), none(api.ErrRange, 2))
	}
	same(t, "a rest", listed(team.Rests(teamT(), plotA())), none(api.ErrArg, 0))
	same(t, "a rest at last", listed(team.Rests(exact(0, 100, 0, 0), plot(ground(), turn(0, 10), rest(1)))), none(api.ErrArg, 0))
}

// TestManyErrors: the errors of Send and Short, in their order.
func TestManyErrors(t *testing.T) {
	wrong, lost := plain(-1), plot(clash())
	teams := func(h ...api.TeamHorses) []api.TeamHorses { return h }
	plots := func(p ...api.TeamPlot) []api.TeamPlot { return p }
	for _, x := range []struct {
		name  string
		teams []api.TeamHorses
		plots []api.TeamPlot
		e     api.Errno
	}{
		{"seven teams", make([]api.TeamHorses, 7), nil, api.ErrLong}, {"seven plots", nil, make([]api.TeamPlot, 7), api.ErrLong},
		{"seven teams, none valid", slices.Repeat(teams(wrong), 7), plots(lost), api.ErrLong}, {"seven plots, and a team that is not valid", teams(wrong), make([]api.TeamPlot, 7), api.ErrLong},
		{"seven plots without a truth", nil, slices.Repeat(plots(lost), 7), api.ErrLong}, {"the last team", teams(plain(9), wrong), plots(takes(1)), api.ErrArg}, {"a team, and no plots", teams(wrong), nil, api.ErrArg},
		{"the last plot", teams(plain(9)), plots(takes(1), plot(ground(), rest(-1))), api.ErrArg}, {"a plot, and no teams", nil, plots(plot(ground(), rest(-1))), api.ErrArg},
		{"a team behind a plot without a truth", teams(plain(9), wrong), plots(lost), api.ErrArg}, {"a plot behind one without a truth", teams(plain(9)), plots(lost, plot(api.Ground{Long: -1})), api.ErrArg},
		{"a plot without a truth", teams(plain(9)), plots(takes(1), lost), api.ErrClash}, {"a plot without a truth, and no teams", nil, plots(lost), api.ErrClash}, {"a plot without a truth behind one that is too hard", teams(plain(1)), plots(takes(9), lost), api.ErrClash},
	} {
		allErr(t, x.name, map[string]answer{"Send": listed(team.Send(x.teams, x.plots)), "Short": number(team.Short(x.teams, x.plots))}, x.e)
	}
	same(t, "six of both", listed(team.Send(make([]api.TeamHorses, 6), make([]api.TeamPlot, 6))), numbers(0, 1, 2, 3, 4, 5))
}

// TestEmpty: nil lists and empty lists are the same (R3).
func TestEmpty(t *testing.T) {
	p := plot(flat(4, 100, 100))
	p.Ground.Pits, p.Steps = nil, nil
	q := p
	q.Ground.Pits, q.Steps = []api.Pit{}, []api.TeamStep{}
	for f, want := range ask(teamT(), p, 0) {
		same(t, f, ask(teamT(), q, 0)[f], want)
	}
	same(t, "Send", listed(team.Send([]api.TeamHorses{}, []api.TeamPlot{})), numbers())
	same(t, "Short", number(team.Short([]api.TeamHorses{}, []api.TeamPlot{})), none(api.ErrNone, 1))
}

// TestMemory: arguments are only read, and results are new memory (R4).
func TestMemory(t *testing.T) {
	teams := []api.TeamHorses{teamU(), teamT(), teamT()}
	plots := []api.TeamPlot{plotA(), plotB(), bare()}
	plots[0].Steps = append(make([]api.TeamStep, 0, 9), plots[0].Steps...)
	first := []answer{listed(team.Rests(teamT(), plots[2])), listed(team.Send(teams, plots[:2]))}
	number(team.Short(teams, plots))
	ask(teamT(), plots[0], 2)
	if !reflect.DeepEqual(teams, []api.TeamHorses{teamU(), teamT(), teamT()}) || !reflect.DeepEqual(plots, []api.TeamPlot{plotA(), plotB(), bare()}) || !slices.Equal(plots[0].Steps[:9][3:], make([]api.TeamStep, 6)) {
		t.Error("an argument was changed")
	}
	for _, a := range first {
		for i := range a.numbers {
			a.numbers[i] = 99
		}
	}
	same(t, "Rests", listed(team.Rests(teamT(), plots[2])), numbers(0, 2))
	same(t, "Send", listed(team.Send(teams, plots[:2])), numbers(1, 0))
}
