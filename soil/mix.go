package soil

import "furrowworks/api"

// mix is what soil can be made of: all the soils whose parts are numbers of these spans, and are SoilParts together. A mix that was narrowed is no wider than these soils need; the zero mix is none.
type mix struct{ sand, silt, clay api.Span }

// anySoil returns all soils.
func anySoil() mix {
	s := api.Span{Lo: 0, Hi: api.SoilParts}
	return mix{s, s, s}
}

// narrowed returns the same soils with spans both of whose ends some soil has, or the zero mix if there is no soil.
func (m mix) narrowed() mix {
	n := mix{
		sand: overlap(m.sand, left(api.SoilParts, m.silt, m.clay)),
		silt: overlap(m.silt, left(api.SoilParts, m.clay, m.sand)),
		clay: overlap(m.clay, left(api.SoilParts, m.sand, m.silt)),
	}
	if n.sand.Lo > n.sand.Hi || n.silt.Lo > n.silt.Hi || n.clay.Lo > n.clay.Hi {
		return mix{}
	}
	return n
}

// both returns the soils that are in both mixes.
func (m mix) both(o mix) mix {
	return mix{overlap(m.sand, o.sand), overlap(m.silt, o.silt), overlap(m.clay, o.clay)}.narrowed()
}

// changed returns the soils that can lie next to those of a mix that was narrowed. Wider spans say all of it, because three parts of one sum that each change by so much have no bounds but those of the single parts.
func (m mix) changed(by int) mix {
	return mix{wider(m.sand, by), wider(m.silt, by), wider(m.clay, by)}
}

// classes returns the set of the classes of all soils of a mix.
func (m mix) classes() int {
	set := 0
	for sand := m.sand.Lo; sand <= m.sand.Hi; sand++ {
		for silt := m.silt.Lo; silt <= m.silt.Hi; silt++ {
			if clay := api.SoilParts - sand - silt; contains(m.clay, clay) {
				set |= 1 << classOf(sand, silt, clay)
			}
		}
	}
	return set
}

// kind is a class, and which soils have it that have no class before it.
type kind struct {
	class int
	has   func(sand, silt, clay int) bool
}

// kinds returns the classes in the order in which they are tried; loam is what is left.
func kinds() [api.SoilClasses - 1]kind {
	return [...]kind{
		{api.SoilClay, func(_, _, clay int) bool { return clay >= api.SoilClayey }},
		{api.SoilSand, func(sand, _, _ int) bool { return sand >= api.SoilSandy }},
		{api.SoilSilt, func(_, silt, _ int) bool { return silt >= api.SoilSilty }},
	}
}

func classOf(sand, silt, clay int) int {
	for _, k := range kinds() {
		if k.has(sand, silt, clay) {
			return k.class
		}
	}
	return api.SoilLoam
}
