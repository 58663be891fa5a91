package press

import (
	"slices"

	"oilcake/api"
)

// mill is a press at work: the pressing to which the parings of each one go (below 0: nowhere), and what all weights can be, by their notes at first.
type mill struct {
	api.Press
	to      [api.MaxPressings]int
	weights [api.MaxPressings][api.WeighParings + 1]api.Span
}

// work returns a press at work, an empty one with an error.
func work(p api.Press) (mill, api.Errno) {
	if e := Check(p); e != api.OK {
		return mill{}, e
	}
	m := mill{Press: p}
	for i, x := range p.Pressings {
		m.to[i] = index(p, x.To)
		for kind := api.WeighSeed; kind <= api.WeighParings; kind++ {
			m.weights[i][kind].Hi = api.MaxOunces
		}
		if x.To == 0 {
			m.weights[i][api.WeighParings].Hi = 0
		}
	}
	for _, x := range p.Weighings {
		w := &m.weights[index(p, x.Pressing)][x.Kind]
		*w = both(*w, x.Ounces)
	}
	return m, api.OK
}

// at returns a press at work, and which of its pressings has an Id.
func at(p api.Press, id int) (m mill, i int, e api.Errno) {
	m, e = work(p)
	i = index(m.Press, id)
	return m, i, firstError(e, unless(i >= 0, api.ErrNone))
}

// both returns what is in two spans; none is if it is no span.
func both(a, b api.Span) api.Span { return api.Span{Lo: max(a.Lo, b.Lo), Hi: min(a.Hi, b.Hi)} }

func isSpan(s api.Span) bool { return s.Lo <= s.Hi }

// sum returns what some weights can be together, if nothing holds them but their spans.
func sum(l []*api.Span) api.Span {
	var s api.Span
	for _, w := range l {
		s.Lo += w.Lo
		s.Hi += w.Hi
	}
	return s
}

// goesIn returns the weights that go into a pressing.
func (m *mill) goesIn(i int) []*api.Span {
	l := []*api.Span{&m.weights[i][api.WeighSeed]}
	for k := range i {
		if m.to[k] == i {
			l = append(l, &m.weights[k][api.WeighParings])
		}
	}
	return l
}

// comesOut returns the weights that come out of a pressing.
func (m *mill) comesOut(i int) []*api.Span {
	var l []*api.Span
	for kind := api.WeighOil; kind <= api.WeighParings; kind++ {
		l = append(l, &m.weights[i][kind])
	}
	return l
}

// through returns what can go in and come out of a pressing.
func (m *mill) through(i int) api.Span { return both(sum(m.goesIn(i)), sum(m.comesOut(i))) }

// balance narrows the weights of a pressing, and the parings that go into it, to what leaves as much that goes in as comes out, and reports whether there are such weights.
func (m *mill) balance(i int) bool {
	through := m.through(i)
	if !m.agree(i) || !isSpan(through) {
		return false
	}
	for _, side := range [][]*api.Span{m.goesIn(i), m.comesOut(i)} {
		all := sum(side)
		for _, w := range side {
			*w = both(*w, api.Span{Lo: through.Lo - (all.Hi - w.Hi), Hi: through.Hi - (all.Lo - w.Lo)})
		}
	}
	return true
}

// settle narrows all weights to what they are in truths, and reports whether there is one. Parings go to later pressings, and each to one only: going on, the parings of a pressing learn of all before it, going back, of all others.
func (m *mill) settle() bool {
	if !m.each(m.balance) {
		return false
	}
	for i := range slices.Backward(m.Pressings) {
		m.balance(i)
	}
	return true
}

// holds reports whether there is a truth, and leaves the weights as they are.
func (m mill) holds() bool { return m.each(m.balance) }

// agree reports whether no notes of the weights of a pressing contradict each other; agrees whether this is so of all.
func (m *mill) agree(i int) bool {
	return !slices.ContainsFunc(m.weights[i][:], func(w api.Span) bool { return !isSpan(w) })
}

func (m *mill) agrees() bool { return m.each(m.agree) }

// each reports whether something is so of each pressing, one after the other.
func (m *mill) each(so func(i int) bool) bool {
	for i := range len(m.Pressings) {
		if !so(i) {
			return false
		}
	}
	return true
}

// under returns the Ids of the pressings whose parings come to one at last.
func (m *mill) under(i int) []int {
	var l []int
	for k := range i {
		end := k
		for end >= 0 && end < i {
			end = m.to[end]
		}
		if end == i {
			l = append(l, m.Pressings[k].Id)
		}
	}
	return l
}

// first returns the first truth, if there is one: weight by weight the least that those before it leave.
func (m mill) first() []api.Weighed {
	var l []api.Weighed
	for i, x := range m.Pressings {
		t := api.Weighed{Pressing: x.Id}
		for kind := range m.weights[i] {
			w := &m.weights[i][kind]
			w.Hi = w.Lo
			m.settle()
			t.Ounces[kind] = w.Lo
		}
		l = append(l, t)
	}
	return l
}

// allows reports whether a list is a truth.
func (m mill) allows(l []api.Weighed) bool {
	if len(l) != len(m.Pressings) || !m.agrees() {
		return false
	}
	for i, x := range l {
		if x.Pressing != m.Pressings[i].Id || x.Ounces != m.noted(i, x.Ounces) {
			return false
		}
		for kind, n := range x.Ounces {
			m.weights[i][kind] = api.Span{Lo: n, Hi: n}
		}
	}
	return m.holds()
}

// noted returns the weights that are nearest to some within the notes of a pressing.
func (m *mill) noted(i int, l [api.WeighParings + 1]int) [api.WeighParings + 1]int {
	for kind, w := range m.weights[i] {
		l[kind] = nearest(w, l[kind])
	}
	return l
}

// nearest returns the number of a span that is nearest to one.
func nearest(s api.Span, n int) int { return max(s.Lo, min(s.Hi, n)) }
