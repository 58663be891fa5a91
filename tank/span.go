package tank

import "oilcake/api"

func isSpan(s api.Span) bool { return s.Lo <= s.Hi }

// isSpanTo reports whether something is a span of numbers from 0 to most.
func isSpanTo(most int, s api.Span) bool {
	return within(api.Span{Hi: most}, s.Lo, s.Hi) && isSpan(s)
}

// only is the span of one number.
func only(n int) api.Span { return api.Span{Lo: n, Hi: n} }

// both returns what is in two spans; it is no span if nothing is.
func both(a, b api.Span) api.Span { return api.Span{Lo: max(a.Lo, b.Lo), Hi: min(a.Hi, b.Hi)} }

// plus returns all sums of a number of one span and one of the other.
func plus(a, b api.Span) api.Span { return api.Span{Lo: a.Lo + b.Lo, Hi: a.Hi + b.Hi} }

// minus returns all numbers of one span less one of the other.
func minus(a, b api.Span) api.Span { return api.Span{Lo: a.Lo - b.Hi, Hi: a.Hi - b.Lo} }
