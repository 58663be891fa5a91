package mark

import (
	"slices"

	"oilcake/api"
	"oilcake/press"
)

// led returns marks in which parings went as a press tells. They are changed themselves.
func led(m api.Marks, p api.Press) api.Marks {
	for i, x := range m.Batches {
		if slices.ContainsFunc(p.Pressings, func(y api.Pressing) bool { return y.Id == x.Id }) {
			m.Batches[i].From, m.Batches[i].Round = origin(m, p, x.Id)
		}
	}
	return m
}

// origin returns the batch of which parings can have gone into another one, and what is known of this; 0 if there is none.
func origin(m api.Marks, p api.Press, id int) (from int, known uint8) {
	for _, y := range p.Pressings {
		if y.To != id || !hasBatch(m.Batches, y.Id) {
			continue
		}
		ounces, _ := press.Span(p, y.Id, api.WeighParings)
		if ounces.Lo > 0 {
			return y.Id, api.KnownYes
		}
		if ounces.Hi > 0 {
			return y.Id, api.KnownOpen
		}
	}
	return 0, api.KnownNo
}
