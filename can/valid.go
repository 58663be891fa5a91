package can

import (
	"slices"

	"oilcake/api"
)

// within reports whether all of some numbers are in a span.
func within(s api.Span, l ...int) bool {
	for _, n := range l {
		if n < s.Lo || n > s.Hi {
			return false
		}
	}
	return true
}

// unless returns an error unless something is so.
func unless(so bool, e api.Errno) api.Errno {
	if so {
		return api.OK
	}
	return e
}

// firstError returns the first of some codes that is an error, otherwise OK.
func firstError(l ...api.Errno) api.Errno {
	e, _ := first(slices.Values(l), func(e api.Errno) bool { return e != api.OK })
	return e
}

// question is something that is so of cans that are valid.
type question struct {
	so func(c api.Cans) bool
}

// questions returns what cans are asked. What is in them is looked at only where each has a size.
func questions() [4]question {
	return [4]question{{fewCans}, {sizesFit}, {cansHold}, {tankHolds}}
}

func fewCans(c api.Cans) bool {
	return within(api.Span{Lo: 1, Hi: api.MaxCans}, len(c.Sizes)) && len(c.In) == len(c.Sizes)
}

func sizesFit(c api.Cans) bool { return within(api.Span{Lo: 1, Hi: api.MaxSize}, c.Sizes...) }

func cansHold(c api.Cans) bool {
	for i, n := range c.In {
		if !within(api.Span{Hi: c.Sizes[i]}, n) {
			return false
		}
	}
	return true
}

func tankHolds(c api.Cans) bool { return within(api.Span{Hi: api.MaxPints}, c.Stock) }

// checkPints returns the error of pints that no can is as large as.
func checkPints(pints int) api.Errno {
	return unless(within(api.Span{Hi: api.MaxSize}, pints), api.ErrArg)
}

// checkTotal returns the error of pints that all of some valid cans together have no room for.
func checkTotal(c api.Cans, pints int) api.Errno {
	return unless(within(api.Span{Hi: sum(c.Sizes)}, pints), api.ErrArg)
}

// checkWant returns the error of what is wanted of some valid cans.
func checkWant(c api.Cans, want []int) api.Errno {
	if len(want) != len(c.Sizes) {
		return api.ErrArg
	}
	for i, n := range want {
		if !within(api.Span{Lo: anything, Hi: c.Sizes[i]}, n) {
			return api.ErrArg
		}
	}
	return api.OK
}

func checkRoom(c api.Cans) api.Errno { return unless(len(c.Sizes) < api.MaxCans, api.ErrFull) }

func checkSize(size int) api.Errno {
	return unless(within(api.Span{Lo: 1, Hi: api.MaxSize}, size), api.ErrArg)
}
