package stow

import (
	"slices"

	"oilcake/api"
)

// within reports whether all of some numbers are in a span.
func within(s api.Span, l ...int) bool {
	for _, n := range l {
		if n < s.Lo || n > s.Hi {
			return false
		}
	}
	return true
}

// unless returns an error unless something is so.
func unless(so bool, e api.Errno) api.Errno {
	if so {
		return api.OK
	}
	return e
}

// firstError returns the first of some codes that is an error, otherwise OK.
func firstError(l ...api.Errno) api.Errno {
	e, _ := first(slices.Values(l), func(e api.Errno) bool { return e != api.OK })
	return e
}

// question is something that is so of a ship that is valid.
type question struct {
	so func(s api.Ship) bool
}

// questions returns what a ship is asked. Probes, which need its holds, come behind these.
func questions() [4]question {
	return [4]question{{holdsFit}, {lotsFit}, {probesFit}, {limitFits}}
}

func holdsFit(s api.Ship) bool {
	wrong := func(x api.Hold) bool { return !within(numbers(), x.Id) || !within(bags(), x.Room) }
	return within(api.Span{Lo: 1, Hi: api.MaxHolds}, len(s.Holds)) && !slices.ContainsFunc(s.Holds, wrong) &&
		inOrder(s.Holds, func(x, y api.Hold) bool { return x.Id < y.Id })
}

func lotsFit(s api.Ship) bool {
	wrong := func(x api.Lot) bool {
		return !within(numbers(), x.Id) || !within(api.Span{Lo: 1, Hi: api.MaxMark}, x.Mark) ||
			!within(bags(), x.Bags) || !within(api.Span{Hi: x.Bags}, x.Dirty)
	}
	return len(s.Lots) <= api.MaxStowed && !slices.ContainsFunc(s.Lots, wrong) &&
		inOrder(s.Lots, func(x, y api.Lot) bool { return x.Id < y.Id }) && together(s.Lots) <= api.MaxBags
}

func probesFit(s api.Ship) bool {
	wrong := func(x api.Probe) bool {
		return !within(numbers(), x.Number) || !hasHold(s, x.Hold) ||
			!within(api.Span{Hi: api.MaxBags - 1}, x.Depth) || !within(api.Span{Hi: api.MaxMark}, x.Mark)
	}
	return len(s.Probes) <= api.MaxProbes && !slices.ContainsFunc(s.Probes, wrong) &&
		inOrder(s.Probes, func(x, y api.Probe) bool { return x.Number < y.Number })
}

func limitFits(s api.Ship) bool { return within(api.Span{Hi: 100}, s.Limit) }

// numbers are all by which things can be known, bags how many there can be of something that is not empty.
func numbers() api.Span { return api.Span{Lo: 1, Hi: api.MaxId} }

func bags() api.Span { return api.Span{Lo: 1, Hi: api.MaxBags} }

// inOrder reports whether each thing of a list may follow the one before it.
func inOrder[T any](l []T, may func(x, y T) bool) bool {
	for i := 1; i < len(l); i++ {
		if !may(l[i-1], l[i]) {
			return false
		}
	}
	return true
}

// together returns how many bags lots have, each of which has few.
func together(l []api.Lot) int {
	n := 0
	for _, x := range l {
		n += x.Bags
	}
	return n
}

func hasHold(s api.Ship, id int) bool {
	return slices.ContainsFunc(s.Holds, func(x api.Hold) bool { return x.Id == id })
}

// checkNumbers returns the error of a list of probes to be struck.
func checkNumbers(s api.Ship, l []int) api.Errno {
	if !inOrder(l, func(x, y int) bool { return x < y }) {
		return api.ErrProbe
	}
	_, missed := strike(s.Probes, l)
	return unless(missed == 0, api.ErrProbe)
}

// strike returns the probes that are left without some, and how many of these there are not.
func strike(all []api.Probe, l []int) (left []api.Probe, missed int) {
	struck := map[int]bool{}
	for _, n := range l {
		struck[n] = true
	}
	for _, x := range all {
		if struck[x.Number] {
			delete(struck, x.Number)
		} else {
			left = append(left, x)
		}
	}
	return left, len(struck)
}

// without returns a ship of its own memory, without some probes.
func without(s api.Ship, l ...int) api.Ship {
	s.Holds, s.Lots = slices.Clone(s.Holds), slices.Clone(s.Lots)
	s.Probes, _ = strike(s.Probes, l)
	return s
}
