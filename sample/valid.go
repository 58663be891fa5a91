package sample

import (
	"slices"

	"oilcake/api"
)

// within reports whether all of some numbers are in a span.
func within(s api.Span, l ...int) bool {
	for _, n := range l {
		if n < s.Lo || n > s.Hi {
			return false
		}
	}
	return true
}

// unless returns an error unless something is so.
func unless(so bool, e api.Errno) api.Errno {
	if so {
		return api.OK
	}
	return e
}

// firstError returns the first of some codes that is an error, otherwise OK.
func firstError(l ...api.Errno) api.Errno {
	e, _ := first(slices.Values(l), func(e api.Errno) bool { return e != api.OK })
	return e
}

func checkDraw(bags int, d api.Draw) api.Errno {
	valid := within(api.Span{Hi: bags}, d.Opened) && within(api.Span{Hi: d.Opened}, d.Found)
	return unless(valid, api.ErrDraw)
}

func checkRule(c api.Cargo, r api.Rule) api.Errno {
	valid := within(api.Span{Hi: c.Bags}, r.Open) && within(api.Span{Hi: r.Open}, r.Accept)
	return unless(valid, api.ErrRule)
}

func checkDirty(c api.Cargo, l ...int) api.Errno { return unless(within(c.Dirty, l...), api.ErrArg) }

func checkOpened(c api.Cargo, opened int) api.Errno {
	return unless(within(api.Span{Hi: c.Bags}, opened), api.ErrArg)
}

func checkChances(l ...api.Part) api.Errno {
	for _, p := range l {
		if !within(api.Span{Lo: 1, Hi: api.MaxDen}, p.Den) || !within(api.Span{Hi: p.Den}, p.Num) {
			return api.ErrChance
		}
	}
	return api.OK
}

// demand is what is asked of a number of a double rule: in which span it has to be.
type demand struct {
	in func(c api.Cargo, x api.Double) (n int, s api.Span)
}

// demands returns what a double rule is checked by. Each of them relies on those before it, so that no sum overflows.
func demands() [5]demand {
	return [5]demand{
		{func(c api.Cargo, x api.Double) (int, api.Span) { return x.First, api.Span{Hi: c.Bags} }},
		{func(c api.Cargo, x api.Double) (int, api.Span) { return x.Second, api.Span{Hi: c.Bags - x.First} }},
		{func(c api.Cargo, x api.Double) (int, api.Span) { return x.Accept, api.Span{Hi: x.First} }},
		{func(c api.Cargo, x api.Double) (int, api.Span) {
			return x.Refuse, api.Span{Lo: x.Accept + 1, Hi: x.First + 1}
		}},
		{func(c api.Cargo, x api.Double) (int, api.Span) {
			return x.Total, api.Span{Lo: x.Accept, Hi: x.Refuse + x.Second}
		}},
	}
}

func checkDouble(c api.Cargo, x api.Double) api.Errno {
	for _, d := range demands() {
		if n, s := d.in(c, x); !within(s, n) {
			return api.ErrRule
		}
	}
	return api.OK
}

func checkTerms(l []api.Term) api.Errno {
	if len(l) > api.MaxTerms {
		return api.ErrTerms
	}
	before := api.Term{}
	for _, t := range l {
		if !within(api.Span{Lo: before.From + 1, Hi: 100}, t.From) || !within(api.Span{Lo: before.Pence, Hi: api.MaxPence}, t.Pence) {
			return api.ErrTerms
		}
		before = t
	}
	return api.OK
}
