package soil

import (
	"cmp"
	"slices"

	"furrowworks/api"
)

func least[N cmp.Ordered](numbers ...N) N {
	return slices.Min(numbers)
}

func greatest[N cmp.Ordered](numbers ...N) N {
	return slices.Max(numbers)
}

// overlap returns what two spans have in common; if that is nothing, its Lo is greater than its Hi.
func overlap(a, b api.Span) api.Span {
	return api.Span{Lo: greatest(a.Lo, b.Lo), Hi: least(a.Hi, b.Hi)}
}

// wider returns a span with so much more at both ends.
func wider(s api.Span, by int) api.Span {
	return api.Span{Lo: s.Lo - by, Hi: s.Hi + by}
}

// left returns what is left of a whole beside a number of a, and one of b.
func left(whole int, a, b api.Span) api.Span {
	return api.Span{Lo: whole - a.Hi - b.Hi, Hi: whole - a.Lo - b.Lo}
}

func sum(spans []api.Span) api.Span {
	var all api.Span
	for _, s := range spans {
		all.Lo += s.Lo
		all.Hi += s.Hi
	}
	return all
}

func contains(s api.Span, n int) bool {
	return s.Lo <= n && n <= s.Hi
}
