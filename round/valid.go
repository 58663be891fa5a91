package round

import (
	"slices"

	"oilcake/api"
)

// within reports whether all of some numbers are in a span.
func within(s api.Span, l ...int) bool {
	for _, n := range l {
		if n < s.Lo || n > s.Hi {
			return false
		}
	}
	return true
}

// unless returns an error unless something is so.
func unless(so bool, e api.Errno) api.Errno {
	if so {
		return api.OK
	}
	return e
}

// firstError returns the first of some codes that is an error, otherwise OK.
func firstError(l ...api.Errno) api.Errno {
	e, _ := first(slices.Values(l), func(e api.Errno) bool { return e != api.OK })
	return e
}

// question is something that is so of a watch that is valid.
type question struct {
	so func(w api.Watch) bool
}

// questions returns what a watch is asked. Ricks are looked at only where there are few.
func questions() [4]question {
	return [4]question{{handsFit}, {fewRicks}, {ricksFit}, {ricksInOrder}}
}

func handsFit(w api.Watch) bool { return within(api.Span{Hi: api.MaxHands}, w.Hands) }

func fewRicks(w api.Watch) bool { return len(w.Ricks) <= api.MaxRicks }

func ricksFit(w api.Watch) bool {
	return !slices.ContainsFunc(w.Ricks, func(x api.Rick) bool {
		return !within(api.Span{Lo: 1, Hi: api.MaxId}, x.Id) || !within(api.Span{Lo: 1, Hi: api.MaxEvery}, x.Every) ||
			!within(api.Span{Hi: x.Every - 1}, x.Waited)
	})
}

func ricksInOrder(w api.Watch) bool {
	return inOrder(w.Ricks, func(x, y api.Rick) bool { return x.Id < y.Id })
}

// checkDays returns the error of a valid watch's days. As with ricks, none is looked at where there are too many.
func checkDays(w api.Watch, days [][]int) api.Errno {
	wrong := func(l []int) bool { return !dayFits(w, l) }
	return unless(len(days) <= api.MaxRun && !slices.ContainsFunc(days, wrong), api.ErrDays)
}

func dayFits(w api.Watch, l []int) bool {
	unknown := func(id int) bool { return place(w, id) < 0 }
	return len(l) <= w.Hands && !slices.ContainsFunc(l, unknown) && inOrder(l, func(x, y int) bool { return x < y })
}

// checkRick returns the error of an Id that no rick has.
func checkRick(w api.Watch, id int) api.Errno { return unless(place(w, id) >= 0, api.ErrNone) }

// place returns where in the list of ricks the one with an Id is; below 0 if there is none.
func place(w api.Watch, id int) int {
	return slices.IndexFunc(w.Ricks, func(x api.Rick) bool { return x.Id == id })
}

// inOrder reports whether each thing of a list may follow the one before it.
func inOrder[T any](l []T, may func(x, y T) bool) bool {
	for i := 1; i < len(l); i++ {
		if !may(l[i-1], l[i]) {
			return false
		}
	}
	return true
}

// copied returns a watch of its own memory.
func copied(w api.Watch) api.Watch {
	w.Ricks = slices.Clone(w.Ricks)
	return w
}
