package open

import (
	"cmp"
	"math/rand/v2"
	"testing"

	"furrowworks/api"
)

// TestOrder: which of two plans is better does not depend on which one is found first (P5.4).
func TestOrder(t *testing.T) {
	r := rand.New(rand.NewPCG(1, 1))
	some := func() api.Plan {
		return api.Plan{Opening: r.IntN(2), Rounds: r.IntN(3), Left: r.IntN(3), Right: r.IntN(3), Furrow: 1 + r.IntN(3)}
	}
	last := 0
	for range 20000 {
		a, b := some(), some()
		passes := func(p api.Plan) int { return 2*p.Rounds + (p.Left+1)/2 + (p.Right+1)/2 }
		furrow := cmp.Compare(a.Furrow, b.Furrow)
		but := cmp.Or(cmp.Compare(passes(a), passes(b)), -cmp.Compare(a.Rounds, b.Rounds), cmp.Compare(a.Opening, b.Opening), cmp.Compare(a.Left, b.Left), cmp.Compare(a.Right, b.Right))
		if but == 0 && furrow != 0 {
			last++
		}
		for _, o := range []struct {
			order order
			sign  int
		}{{byPasses{2}, cmp.Compare(passes(a), passes(b))}, {byAll{byPasses{2}}, cmp.Or(but, furrow)}} {
			if o.order.better(a, b) != (o.sign < 0) || o.order.better(b, a) != (o.sign > 0) {
				t.Fatal(a, b, o)
			}
		}
	}
	if last < 50 {
		t.Error("the plans are too much alike", last)
	}
}
