package open

import "furrowworks/api"

// choice is a plan that was chosen, and its passes.
type choice struct {
	plan   api.Plan
	passes int
}

// best chooses the best plan, and tells whether there is one.
func (f field) best() (c choice, ok bool) {
	o := byAll{byPasses{f.Side}}
	k := f.bestBy(o)
	if !k.some {
		return c, false
	}
	return choice{k.kept, o.passes(k.kept)}, true
}

func (f field) bestBy(o order) keeper[api.Plan] {
	k := keeper[api.Plan]{better: o.better}
	for p := range f.plans() {
		k.offer(p)
	}
	return k
}
