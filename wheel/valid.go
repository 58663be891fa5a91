package wheel

import (
	"slices"

	"oilcake/api"
)

// within reports whether all of some numbers are in a span.
func within(s api.Span, l ...int) bool {
	for _, n := range l {
		if n < s.Lo || n > s.Hi {
			return false
		}
	}
	return true
}

// unless returns an error unless something is so.
func unless(so bool, e api.Errno) api.Errno {
	if so {
		return api.OK
	}
	return e
}

// firstError returns the first of some codes that is an error, otherwise OK.
func firstError(l ...api.Errno) api.Errno {
	e, _ := first(slices.Values(l), func(e api.Errno) bool { return e != api.OK })
	return e
}

// toothed reports whether wheels can have so many teeth.
func toothed(l ...int) bool { return within(api.Span{Lo: api.MinTeeth, Hi: api.MaxTeeth}, l...) }

// geared returns wheels at work, with the error of wheels, or of a train, that are not valid.
func geared(w api.Wheels, l []api.Pair) (*shed, api.Errno) {
	if e := Check(w); e != api.OK {
		return nil, e
	}
	s := work(w)
	return s, unless(s.fits(l), api.ErrTrain)
}

func checkWish(wish api.Part) api.Errno {
	return unless(within(api.Span{Lo: 1, Hi: api.MaxDen}, wish.Num, wish.Den), api.ErrArg)
}

func checkPairs(pairs int) api.Errno {
	return unless(within(api.Span{Lo: 1, Hi: api.MaxPairs}, pairs), api.ErrArg)
}

// question is something that is so of a shaft that is valid.
type question struct {
	so func(s api.Shaft) bool
}

// questions returns what a shaft is asked. Cams are looked at only where there are marks for them.
func questions() [3]question { return [3]question{{marksFit}, {camsFit}, {poundsFit}} }

func marksFit(s api.Shaft) bool {
	return within(api.Span{Lo: 1, Hi: api.MaxRound}, s.Marks) && len(s.Stampers) <= api.MaxStampers
}

func camsFit(s api.Shaft) bool {
	return !slices.ContainsFunc(s.Stampers, func(x api.Stamper) bool {
		return x.Cams < 1 || s.Marks%x.Cams != 0 || !within(api.Span{Lo: 1, Hi: s.Marks/x.Cams - 1}, x.Up)
	})
}

func poundsFit(s api.Shaft) bool {
	return !slices.ContainsFunc(s.Stampers, func(x api.Stamper) bool {
		return !within(api.Span{Lo: 1, Hi: api.MaxPounds}, x.Pounds)
	})
}

// checkSetting returns the error of a shaft, or of a setting that is not one of it.
func checkSetting(s api.Shaft, set []int) api.Errno {
	if e := firstError(Sound(s), unless(len(set) == len(s.Stampers), api.ErrSet)); e != api.OK {
		return e
	}
	a := axle{s}
	for i, n := range set {
		if !within(api.Span{Hi: a.gap(i) - 1}, n) {
			return api.ErrSet
		}
	}
	return api.OK
}

func checkBy(by int) api.Errno {
	return unless(within(api.Span{Lo: -api.MaxRound, Hi: api.MaxRound}, by), api.ErrArg)
}

// checkWater returns the error of water that is not told for each day of a valid plan, or of blows that no turn takes.
func checkWater(p api.Plan, water []int, blows int) api.Errno {
	return unless(len(water) == len(p.Turns) && within(api.Span{Hi: api.MaxWater}, water...) &&
		within(api.Span{Lo: 1, Hi: api.MaxBlows}, blows), api.ErrArg)
}

// copied returns a plan with the same content, of its own memory.
func copied(p api.Plan) api.Plan {
	p.Turns, p.Arrivals, p.Sales = slices.Clone(p.Turns), slices.Clone(p.Arrivals), slices.Clone(p.Sales)
	return p
}
