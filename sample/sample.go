// Package sample is layer 1: a cargo of bags, some of them dirty, is judged by a few that are opened. See shared/doc/01-sample.md.
package sample

import (
	"slices"

	"oilcake/api"
)

// Check returns the error of a cargo (P1.1).
func Check(c api.Cargo) api.Errno {
	bags := within(api.Span{Lo: 1, Hi: api.MaxBags}, c.Bags)
	dirty := within(api.Span{Hi: c.Bags}, c.Dirty.Lo, c.Dirty.Hi) && c.Dirty.Lo <= c.Dirty.Hi
	return unless(bags && dirty, api.ErrCargo)
}

// Ways returns how many sets of k things there are of n things (P1.2).
func Ways(n, k int) (int, api.Errno) {
	if !within(api.Span{Hi: api.MaxBags}, n) || !within(api.Span{Hi: n}, k) {
		return 0, api.ErrArg
	}
	return counter()(n, k), api.OK
}

// Chance returns the chance of a draw (P1.2).
func Chance(c api.Cargo, dirty int, d api.Draw) (api.Part, api.Errno) {
	if e := firstError(Check(c), checkDraw(c.Bags, d), checkDirty(c, dirty)); e != api.OK {
		return api.Part{}, e
	}
	h := work(c)
	return part(h.ways(dirty, d), h.draws(d.Opened)), api.OK
}

// AtMost returns the chance that of so many opened bags at most Found are dirty (P1.2).
func AtMost(c api.Cargo, dirty int, d api.Draw) (api.Part, api.Errno) {
	if e := firstError(Check(c), checkDraw(c.Bags, d), checkDirty(c, dirty)); e != api.OK {
		return api.Part{}, e
	}
	return work(c).atMost(dirty, d), api.OK
}

// Mean returns how many of some opened bags are dirty in the middle of all sets (P1.2).
func Mean(c api.Cargo, dirty, opened int) (api.Part, api.Errno) {
	if e := firstError(Check(c), checkDirty(c, dirty), checkOpened(c, opened)); e != api.OK {
		return api.Part{}, e
	}
	h := work(c)
	found := h.sum(dirty, opened, func(d api.Draw) int { return d.Found })
	return part(found, h.draws(opened)), api.OK
}

// after returns a cargo at work behind a draw that some number of dirty bags explains.
func after(c api.Cargo, d api.Draw, l ...api.Part) (hold, api.Errno) {
	if e := firstError(Check(c), checkDraw(c.Bags, d), checkChances(l...)); e != api.OK {
		return hold{}, e
	}
	h := work(c)
	if !h.explained(d.Opened)[d] {
		return hold{}, api.ErrBad
	}
	return h, api.OK
}

// Can returns the least and the greatest number of dirty bags that can be after a draw (P1.3).
func Can(c api.Cargo, d api.Draw) (api.Span, api.Errno) {
	h, e := after(c, d)
	if e != api.OK {
		return api.Span{}, e
	}
	return h.span(d), api.OK
}

// Rest returns the cargo of the bags that were not opened (P1.3).
func Rest(c api.Cargo, d api.Draw) (api.Cargo, api.Errno) {
	h, e := after(c, d)
	if e != api.OK {
		return api.Cargo{}, e
	}
	if d.Opened == h.Bags {
		return api.Cargo{}, api.ErrNone
	}
	s := h.span(d)
	return api.Cargo{Bags: h.Bags - d.Opened, Dirty: api.Span{Lo: s.Lo - d.Found, Hi: s.Hi - d.Found}}, api.OK
}

// Likely returns all numbers that can be for which the chance of a draw is greatest (P1.3).
func Likely(c api.Cargo, d api.Draw) ([]int, api.Errno) {
	h, e := after(c, d)
	if e != api.OK {
		return nil, e
	}
	return h.likely(d), api.OK
}

// Bound returns the greatest number that can be after a draw with at least a chance (P1.4).
func Bound(c api.Cargo, d api.Draw, p api.Part) (int, api.Errno) {
	h, e := after(c, d, p)
	if e != api.OK {
		return 0, e
	}
	greatest, some := h.bound(d, p)
	return greatest, unless(some, api.ErrNone)
}

// Find returns the fewest bags that find a dirty one with at least a chance (P1.4).
func Find(c api.Cargo, dirty int, p api.Part) (int, api.Errno) {
	if e := firstError(Check(c), checkDirty(c, dirty), checkChances(p)); e != api.OK {
		return 0, e
	}
	fewest, some := work(c).find(dirty, p)
	return fewest, unless(some, api.ErrNone)
}

// Accepts returns the chance that a rule accepts a cargo (P1.5).
func Accepts(c api.Cargo, r api.Rule, dirty int) (api.Part, api.Errno) {
	if e := firstError(Check(c), checkRule(c, r), checkDirty(c, dirty)); e != api.OK {
		return api.Part{}, e
	}
	return work(c).accepts(r, dirty), api.OK
}

// Curve returns the chances that a rule accepts a cargo, for all numbers of its span (P1.5).
func Curve(c api.Cargo, r api.Rule) ([]api.Part, api.Errno) {
	if e := firstError(Check(c), checkRule(c, r)); e != api.OK {
		return nil, e
	}
	h := work(c)
	var l []api.Part
	for dirty := range h.numbers(api.Draw{}) { // before a draw all numbers of the span can be
		l = append(l, h.accepts(r, dirty))
	}
	return l, api.OK
}

// Good reports whether a rule is good for two numbers of dirty bags and two chances (P1.5).
func Good(c api.Cargo, r api.Rule, good, bad int, seller, buyer api.Part) (bool, api.Errno) {
	if e := firstError(Check(c), checkRule(c, r), checkDirty(c, good, bad), checkChances(seller, buyer), unless(good < bad, api.ErrArg)); e != api.OK {
		return false, e
	}
	_, is := work(c).firstGood(slices.Values([]api.Rule{r}), sides(good, bad, seller, buyer))
	return is, api.OK
}

// Least returns, of all rules that are good, the one that opens the fewest bags, of several the one with the least Accept (P1.5).
func Least(c api.Cargo, good, bad int, seller, buyer api.Part) (api.Rule, api.Errno) {
	if e := firstError(Check(c), checkDirty(c, good, bad), checkChances(seller, buyer), unless(good < bad, api.ErrArg)); e != api.OK {
		return api.Rule{}, e
	}
	h := work(c)
	r, _ := h.firstGood(h.rules(), sides(good, bad, seller, buyer)) // there always is one: all bags, of which at most good are dirty
	return r, api.OK
}

// Twice returns the chance that a double rule accepts a cargo, and how many bags it opens in the middle of all sets (P1.6).
func Twice(c api.Cargo, x api.Double, dirty int) (accepts, opens api.Part, e api.Errno) {
	if e := firstError(Check(c), checkDouble(c, x), checkDirty(c, dirty)); e != api.OK {
		return api.Part{}, api.Part{}, e
	}
	h := work(c)
	return h.taken(x, dirty), h.opens(x, dirty), api.OK
}

// Off returns what terms take off for a draw (P1.7).
func Off(l []api.Term, d api.Draw) (int, api.Errno) {
	if e := firstError(checkTerms(l), checkDraw(api.MaxBags, d)); e != api.OK {
		return 0, e
	}
	return off(l, d), api.OK
}

// Fair returns what terms take off in the middle of all sets of some bags (P1.7).
func Fair(c api.Cargo, dirty, opened int, l []api.Term) (api.Part, api.Errno) {
	if e := firstError(Check(c), checkDirty(c, dirty), checkTerms(l), checkOpened(c, opened)); e != api.OK {
		return api.Part{}, e
	}
	h := work(c)
	pence := h.sum(dirty, opened, func(d api.Draw) int { return off(l, d) })
	return part(pence, h.draws(opened)), api.OK
}

// Award returns what two arbitrators and an umpire award (P1.7).
func Award(a, b, umpire int) (int, api.Errno) {
	if !within(api.Span{Hi: api.MaxPence}, a, b, umpire) {
		return 0, api.ErrArg
	}
	if near(a, b) {
		return (a + b) / 2, api.OK
	}
	return middle(a, b, umpire), api.OK
}
