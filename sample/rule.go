package sample

import (
	"iter"

	"oilcake/api"
)

// accepts returns the chance that a rule accepts a cargo with so many dirty bags.
func (h hold) accepts(r api.Rule, dirty int) api.Part {
	return h.atMost(dirty, api.Draw{Opened: r.Open, Found: r.Accept})
}

// side is the seller or the buyer: the number of dirty bags that counts for one of them, and whether the risk is small enough if a cargo with so many is accepted with a chance.
type side struct {
	dirty int
	bears func(accepts api.Part) bool
}

func sides(good, bad int, seller, buyer api.Part) [2]side {
	return [2]side{
		{good, func(accepts api.Part) bool { return reaches(seller, not(accepts)) }},
		{bad, func(accepts api.Part) bool { return reaches(buyer, accepts) }},
	}
}

// firstGood returns the first of some rules that is good for both sides, and whether there is one.
func (h hold) firstGood(rules iter.Seq[api.Rule], both [2]side) (api.Rule, bool) {
next:
	for r := range rules {
		for _, s := range both {
			if !s.bears(h.accepts(r, s.dirty)) {
				continue next
			}
		}
		return r, true
	}
	return api.Rule{}, false
}

// rules yields all rules that are valid for the cargo: those that open fewer bags first, and of these those that accept fewer.
func (h hold) rules() iter.Seq[api.Rule] {
	return func(yield func(api.Rule) bool) {
		for open := range upTo(h.Bags) {
			for accept := range upTo(open) {
				if !yield(api.Rule{Open: open, Accept: accept}) {
					return
				}
			}
		}
	}
}

// again reports whether a double rule opens its second bags behind its first draw.
func again(x api.Double, d api.Draw) bool { return d.Found > x.Accept && d.Found < x.Refuse }

// taken returns the chance that a double rule accepts a cargo with so many dirty bags.
func (h hold) taken(x api.Double, dirty int) api.Part {
	rest := hold{Cargo: api.Cargo{Bags: h.Bags - x.First}, sets: h.sets}
	seconds := rest.draws(x.Second)
	accepted := h.sum(dirty, x.First, func(d api.Draw) int {
		if d.Found <= x.Accept {
			return seconds
		}
		if again(x, d) {
			return rest.few(dirty-d.Found, x.Second, x.Total-d.Found)
		}
		return 0
	})
	return part(accepted, h.draws(x.First)*seconds)
}

// opens returns how many bags a double rule opens in the middle.
func (h hold) opens(x api.Double, dirty int) api.Part {
	opened := h.sum(dirty, x.First, func(d api.Draw) int {
		if again(x, d) {
			return x.First + x.Second
		}
		return x.First
	})
	return part(opened, h.draws(x.First))
}
