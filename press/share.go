package press

import "oilcake/api"

// share is the oil of a pressing, and what goes in.
type share struct{ oil, in int }

// rich returns the share with the greatest part of oil, and poor the one with the least, in the truths in which what goes in is in a span; of weights that are settled. Of as much oil, less that goes in makes the part greater: so the oil is the most, or the least, that can be, and what goes in fits it.
func (m *mill) rich(i int, in api.Span) share {
	oil, other := m.weights[i][api.WeighOil], m.other(i)
	return share{oil.Hi, max(in.Lo, oil.Hi+other.Lo)}
}

func (m *mill) poor(i int, in api.Span) share {
	oil, other := m.weights[i][api.WeighOil], m.other(i)
	least := max(oil.Lo, in.Lo-other.Hi)
	return share{least, min(in.Hi, least+other.Hi)}
}

// other returns what comes out of a pressing and is not oil.
func (m *mill) other(i int) api.Span { return sum(m.comesOut(i)[1:]) }

// part returns the oil as a part of what goes in, in lowest terms; something goes in.
func (s share) part() api.Part {
	d := divisor(s.oil, s.in)
	return api.Part{Num: s.oil / d, Den: s.in / d}
}

// divisor returns the greatest number that divides both, the second one above 0.
func divisor(a, b int) int {
	for a != 0 {
		a, b = b%a, a
	}
	return b
}

// below reports whether the oil is less than a part of what goes in.
func (s share) below(p api.Part) bool { return s.oil*p.Den < s.in*p.Num }

// known returns what is known of something that is so at the one end, or at the other one.
func known(one, other bool) uint8 {
	switch {
	case one && other:
		return api.KnownYes
	case one || other:
		return api.KnownOpen
	}
	return api.KnownNo
}
