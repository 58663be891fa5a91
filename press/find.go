package press

import (
	"cmp"
	"iter"
	"slices"

	"oilcake/api"
)

// asked is a kind of which all is asked: the most of it if sign is 1, the least, as the most of what it lacks, if it is -1.
type asked struct{ kind, sign int }

// offer is prices: the pressings that have one other than 0, and the sum of prices.
type offer struct {
	priced []int
	sum    int
}

// proof returns the least sum of prices, with the fewest pressings, and the first list of them: there is a truth in which just so much comes about.
func (m *mill) proof(a asked) offer {
	return foremost(m.offers(a), func(x, y offer) int {
		return cmp.Or(cmp.Compare(x.sum, y.sum), cmp.Compare(len(x.priced), len(y.priced)), slices.Compare(x.priced, y.priced))
	})
}

// foremost returns the first of several things by an order.
func foremost[T any](all iter.Seq[T], order func(x, y T) int) T {
	var best T
	some := false
	for x := range all {
		if !some || order(x, best) < 0 {
			best, some = x, true
		}
	}
	return best
}

// offers yields all prices that can prove what is asked.
func (m *mill) offers(a asked) iter.Seq[offer] {
	price := a.sign
	if a.kind == api.WeighSeed {
		price = -a.sign
	}
	return func(yield func(offer) bool) {
		var prices [api.MaxPressings]int
		var try func(i int) bool
		try = func(i int) bool {
			if i == len(m.Pressings) {
				return yield(m.offer(a, prices))
			}
			prices[i] = 0
			if !try(i + 1) {
				return false
			}
			prices[i] = price
			return try(i + 1)
		}
		try(0)
	}
}

func (m *mill) offer(a asked, prices [api.MaxPressings]int) offer {
	var o offer
	for i, x := range m.Pressings {
		if prices[i] != 0 {
			o.priced = append(o.priced, x.Id)
		}
		for kind, w := range m.weights[i] {
			counts := m.counts(a, prices, i, kind)
			o.sum += max(counts*w.Lo, counts*w.Hi)
		}
	}
	return o
}

// counts returns what an ounce of a weight counts.
func (m *mill) counts(a asked, prices [api.MaxPressings]int, i, kind int) int {
	n := -prices[i]
	if kind == api.WeighSeed {
		n = prices[i]
	}
	if kind == api.WeighParings && m.to[i] >= 0 {
		n += prices[m.to[i]]
	}
	if kind == a.kind {
		n += a.sign
	}
	return n
}

// untrue returns the fewest weighings without which there is a truth.
func (m *mill) untrue() ([]int, api.Errno) {
next:
	for l := range m.lists(api.MaxFalse) {
		rest, _ := work(without(m.Press, l...))
		for i := range len(rest.Pressings) {
			if !rest.balance(i) {
				continue next
			}
		}
		return l, api.OK
	}
	return nil, api.ErrMany
}

// lists yields all lists of at most so many weighings, by their Numbers: shorter ones first, and of those that are as long the first ones.
func (m *mill) lists(most int) iter.Seq[[]int] {
	return func(yield func([]int) bool) {
		for n := range most + 1 {
			if !m.longer(nil, 0, n, yield) {
				return
			}
		}
	}
}

// longer yields all lists that begin with one, with so many more weighings from one on, and reports whether to go on.
func (m *mill) longer(begin []int, from, more int, yield func([]int) bool) bool {
	if more == 0 {
		return yield(slices.Clone(begin))
	}
	for k := from; k < len(m.Weighings); k++ {
		if !m.longer(append(begin, m.Weighings[k].Number), k+1, more-1, yield) {
			return false
		}
	}
	return true
}

// missing returns what went elsewhere, or came from there. What has to at a pressing is not put off: an ounce that is missing changes the parings by one, so it spares one at most at all pressings that follow.
func (m mill) missing() []api.Missing {
	var l []api.Missing
	for i, x := range m.Pressings {
		parings := &m.weights[i][api.WeighParings]
		notes := *parings
		*parings = api.Span{}
		in, out := sum(m.goesIn(i)), sum(m.comesOut(i))
		can := api.Span{Lo: in.Lo - out.Hi, Hi: in.Hi - out.Lo}
		*parings = api.Span{Lo: nearest(notes, can.Lo), Hi: nearest(notes, can.Hi)}
		gone := max(can.Lo-notes.Hi, 0) + min(can.Hi-notes.Lo, 0) // one of both is 0
		if gone != 0 {
			l = append(l, api.Missing{Pressing: x.Id, Ounces: gone})
		}
	}
	return l
}
