package peg

import "furrowworks/api"

// question is what is asked of each truth.
type question interface {
	// hear takes in a truth, and returns whether another one could tell more.
	hear(at places, moved int) bool
}

// ask asks one truth after another one, until no other one could tell more; it panics if there is no truth.
func ask(p api.Pegs, q question) {
	some := false
asking:
	for at, moved := range truths(p) {
		some = true
		if !q.hear(at, moved) {
			break asking
		}
	}
	if !some {
		panic(api.ErrClash)
	}
}

// suspects asks which pegs were moved; all is the set of all pegs.
type suspects struct {
	all, pegs int
	none      bool
}

func (s *suspects) hear(_ places, moved int) bool {
	if moved == nobody {
		s.none = true
	} else {
		s.pegs |= 1 << moved
	}
	return !s.none || s.pegs != s.all
}

// standing asks at which places a peg stands.
type standing struct {
	peg  int
	seen map[place]bool
}

func (s standing) hear(at places, _ int) bool {
	s.seen[at[s.peg]] = true
	return true
}

// standsOf returns the places at which a peg stands in some truth.
func standsOf(p api.Pegs, peg int) map[place]bool {
	s := standing{peg, map[place]bool{}}
	ask(p, s)
	return s.seen
}

// astray asks at which places a peg stands when it was moved.
type astray struct{ standing }

func (a astray) hear(at places, moved int) bool {
	if moved == a.peg {
		a.standing.hear(at, moved)
	}
	return true
}

// distance tells the square of the distance of two pegs.
type distance struct {
	a, b int
	tell func(int)
}

func (d distance) hear(at places, _ int) bool {
	d.tell(apart(at[d.a], at[d.b]))
	return true
}

// triangle tells twice the area of the triangle of three pegs.
type triangle struct {
	a, b, c int
	tell    func(int)
}

func (t triangle) hear(at places, _ int) bool {
	t.tell(twiceArea(at[t.a], at[t.b], at[t.c]))
	return true
}

// evidence asks which sets of lengths are all that is right in a truth: in one in which the peg was moved, and in one in which it was not.
type evidence struct {
	peg             int
	lengths         []api.Length
	moved, notMoved [1 << api.PegLengths]bool
}

func (v *evidence) hear(at places, moved int) bool {
	set := 0
	for i, l := range v.lengths {
		if right(l, at) {
			set |= 1 << i
		}
	}
	if moved == v.peg {
		v.moved[set] = true
	} else {
		v.notMoved[set] = true
	}
	// Where all lengths are right although the peg was not moved no lengths prove it.
	return !v.notMoved[1<<len(v.lengths)-1]
}

// prove tells whether the lengths of the set prove that the peg was moved.
func (v *evidence) prove(set int) bool {
	proved := false
	for all := range v.moved {
		if all&set != set {
			continue
		}
		if v.notMoved[all] {
			return false
		}
		proved = proved || v.moved[all]
	}
	return proved
}
