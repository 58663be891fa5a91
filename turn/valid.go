package turn

import (
	"slices"

	"oilcake/api"
)

// within reports whether all of some numbers are in a span.
func within(s api.Span, l ...int) bool {
	for _, n := range l {
		if n < s.Lo || n > s.Hi {
			return false
		}
	}
	return true
}

// unless returns an error unless something is so.
func unless(so bool, e api.Errno) api.Errno {
	if so {
		return api.OK
	}
	return e
}

// firstError returns the first of some codes that is an error, otherwise OK.
func firstError(l ...api.Errno) api.Errno {
	e, _ := first(slices.Values(l), func(e api.Errno) bool { return e != api.OK })
	return e
}

// question is something that is so of a roll that is valid, if its press is.
type question struct {
	so func(r api.Roll) bool
}

// questions returns what a roll is asked. Notes, which need its men and its shifts, come behind these.
func questions() [3]question { return [3]question{{menFit}, {shiftsFit}, {notesFit}} }

func menFit(r api.Roll) bool {
	return len(r.Men) <= api.MaxMen && within(ids(), r.Men...) && inOrder(r.Men, func(x, y int) bool { return x < y })
}

func shiftsFit(r api.Roll) bool {
	wrong := func(x api.Shift) bool {
		return !pressed(r.Press, x.Pressing) || !within(api.Span{Hi: api.MaxPence}, x.Pence)
	}
	return len(r.Shifts) <= api.MaxShifts && !slices.ContainsFunc(r.Shifts, wrong) &&
		inOrder(r.Shifts, func(x, y api.Shift) bool { return x.Pressing < y.Pressing })
}

func notesFit(r api.Roll) bool {
	wrong := func(x api.Note) bool {
		return !within(ids(), x.Number) || checkThings(r, x.One, x.Other) != api.OK
	}
	return len(r.Notes) <= api.MaxNotes && !slices.ContainsFunc(r.Notes, wrong) &&
		inOrder(r.Notes, func(x, y api.Note) bool { return x.Number < y.Number })
}

// ids are all numbers that men and notes can be known by.
func ids() api.Span { return api.Span{Lo: 1, Hi: api.MaxId} }

// inOrder reports whether each thing of a list may follow the one before it.
func inOrder[T any](l []T, may func(x, y T) bool) bool {
	for i := 1; i < len(l); i++ {
		if !may(l[i-1], l[i]) {
			return false
		}
	}
	return true
}

func pressed(p api.Press, pressing int) bool {
	return slices.ContainsFunc(p.Pressings, func(x api.Pressing) bool { return x.Id == pressing })
}

// shiftOf returns which shift of a roll is that of a pressing; below 0 if there is none.
func shiftOf(r api.Roll, pressing int) int {
	return slices.IndexFunc(r.Shifts, func(x api.Shift) bool { return x.Pressing == pressing })
}

// checkThings returns the error of things that are not all those of a roll.
func checkThings(r api.Roll, l ...api.Thing) api.Errno {
	foreign := func(x api.Thing) bool { return !slices.Contains(r.Men, x.Man) || shiftOf(r, x.Pressing) < 0 }
	return unless(!slices.ContainsFunc(l, foreign), api.ErrThing)
}

func checkMan(r api.Roll, man int) api.Errno { return unless(slices.Contains(r.Men, man), api.ErrNone) }

func checkShift(r api.Roll, pressing int) api.Errno {
	return unless(shiftOf(r, pressing) >= 0, api.ErrNone)
}

// checkNumbers returns the error of a list of notes to be struck.
func checkNumbers(r api.Roll, l []int) api.Errno {
	foreign := func(n int) bool {
		return !slices.ContainsFunc(r.Notes, func(x api.Note) bool { return x.Number == n })
	}
	return unless(inOrder(l, func(x, y int) bool { return x < y }) && !slices.ContainsFunc(l, foreign), api.ErrNote)
}

// without returns a roll of its own memory, without some notes.
func without(r api.Roll, numbers ...int) api.Roll {
	r.Press.Pressings, r.Press.Weighings = slices.Clone(r.Press.Pressings), slices.Clone(r.Press.Weighings)
	r.Men, r.Shifts = slices.Clone(r.Men), slices.Clone(r.Shifts)
	struck := func(x api.Note) bool { return slices.Contains(numbers, x.Number) }
	r.Notes = slices.DeleteFunc(slices.Clone(r.Notes), struck)
	return r
}
