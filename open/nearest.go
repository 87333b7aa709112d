package open

import "furrowworks/api"

// neighbours are the nearest widths that some plan fits.
type neighbours struct{ less, more int }

func (f field) nearest() neighbours {
	less, more := keeper[int]{better: isMore}, keeper[int]{better: isLess}
	for p := range f.laid(api.OpenWide) {
		turned := furrows(p, f.Side) * p.Furrow
		filled := api.Span{Lo: turned + f.Opening.Lo + f.Finish.Lo, Hi: turned + f.Opening.Hi + f.Finish.Hi}
		if s := overlap(filled, api.Span{Lo: 0, Hi: f.Wide}); size(s) > 0 {
			less.offer(s.Hi)
		}
		if s := overlap(filled, api.Span{Lo: f.Wide, Hi: api.OpenWide}); size(s) > 0 {
			more.offer(s.Lo)
		}
	}
	return neighbours{less.or(-1), more.or(-1)}
}
