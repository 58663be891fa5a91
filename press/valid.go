package press

import (
	"slices"

	"oilcake/api"
)

// within reports whether all of some numbers are in a span.
func within(s api.Span, l ...int) bool {
	for _, n := range l {
		if n < s.Lo || n > s.Hi {
			return false
		}
	}
	return true
}

// unless returns an error unless something is so.
func unless(so bool, e api.Errno) api.Errno {
	if so {
		return api.OK
	}
	return e
}

// firstError returns the first of some codes that is an error, otherwise OK.
func firstError(l ...api.Errno) api.Errno {
	for _, e := range l {
		if e != api.OK {
			return e
		}
	}
	return api.OK
}

// unlessBad returns an error that there is before, otherwise ErrBad unless something that is asked only then is so.
func unlessBad(before api.Errno, so func() bool) api.Errno {
	if before != api.OK {
		return before
	}
	return unless(so(), api.ErrBad)
}

// ids are all numbers that things can be known by.
func ids() api.Span { return api.Span{Lo: 1, Hi: api.MaxId} }

// demand is something that has to be met by a press that is valid.
type demand struct {
	met func(p api.Press) bool
}

// demands returns what a press is checked by. Where a pressing is looked for, those before have seen to it that there are few, each with an Id of its own.
func demands() [6]demand {
	return [6]demand{
		{func(p api.Press) bool {
			return len(p.Pressings) <= api.MaxPressings && len(p.Weighings) <= api.MaxWeighings
		}},
		{func(p api.Press) bool { return !slices.ContainsFunc(p.Pressings, wrongPressing) }},
		{func(p api.Press) bool { return inOrder(p.Pressings, follows) }},
		{leadOn},
		{func(p api.Press) bool {
			return !slices.ContainsFunc(p.Weighings, func(x api.Weighing) bool { return wrongWeighing(p, x) })
		}},
		{func(p api.Press) bool {
			return inOrder(p.Weighings, func(x, y api.Weighing) bool { return x.Number < y.Number })
		}},
	}
}

func wrongPressing(x api.Pressing) bool {
	return !within(ids(), x.Id) || !within(api.Span{Hi: api.MaxDay}, x.Day) || !within(api.Span{Lo: 1, Hi: api.MaxPresses}, x.Press)
}

func follows(x, y api.Pressing) bool { return x.Id < y.Id && x.Day <= y.Day }

// leadOn reports whether parings go to later pressings, or nowhere.
func leadOn(p api.Press) bool {
	for i, x := range p.Pressings {
		if x.To != 0 && index(p, x.To) <= i {
			return false
		}
	}
	return true
}

func wrongWeighing(p api.Press, x api.Weighing) bool {
	ounces := within(api.Span{Hi: api.MaxOunces}, x.Ounces.Lo, x.Ounces.Hi) && x.Ounces.Lo <= x.Ounces.Hi
	return !within(ids(), x.Number) || index(p, x.Pressing) < 0 || checkKind(x.Kind) != api.OK || !ounces
}

// inOrder reports whether each thing of a list may follow the one before it.
func inOrder[T any](l []T, may func(x, y T) bool) bool {
	for i := 1; i < len(l); i++ {
		if !may(l[i-1], l[i]) {
			return false
		}
	}
	return true
}

// index returns which pressing has an Id; below 0 if there is none.
func index(p api.Press, id int) int {
	return slices.IndexFunc(p.Pressings, func(x api.Pressing) bool { return x.Id == id })
}

func checkKind(kind int) api.Errno {
	return unless(within(api.Span{Lo: api.WeighSeed, Hi: api.WeighParings}, kind), api.ErrArg)
}

// checkSummed returns the error of a kind of which all is told together.
func checkSummed(kind int) api.Errno {
	return firstError(checkKind(kind), unless(kind != api.WeighParings, api.ErrArg))
}

func checkPart(x api.Part) api.Errno {
	return unless(within(api.Span{Lo: 1, Hi: api.MaxDen}, x.Den) && within(api.Span{Hi: x.Den}, x.Num), api.ErrArg)
}

// checkNumbers returns the error of a list of weighings to be struck.
func checkNumbers(p api.Press, l []int) api.Errno {
	if !inOrder(l, func(x, y int) bool { return x < y }) {
		return api.ErrWeighing
	}
	_, missed := strike(p.Weighings, l)
	return unless(missed == 0, api.ErrWeighing)
}

// valid returns a press, or an error unless it is valid.
func valid(p api.Press, e api.Errno) (api.Press, api.Errno) {
	if Check(p) != api.OK {
		return api.Press{}, e
	}
	return p, api.OK
}

// strike returns the weighings that are left without some, and how many of these there are not.
func strike(all []api.Weighing, l []int) (left []api.Weighing, missed int) {
	struck := map[int]bool{}
	for _, n := range l {
		struck[n] = true
	}
	for _, x := range all {
		if struck[x.Number] {
			delete(struck, x.Number)
		} else {
			left = append(left, x)
		}
	}
	return left, len(struck)
}

// without returns a press of its own memory, without some weighings.
func without(p api.Press, l ...int) api.Press {
	left, _ := strike(p.Weighings, l)
	return api.Press{Pressings: slices.Clone(p.Pressings), Weighings: left}
}
