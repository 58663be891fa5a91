package wire

import (
	"slices"
	"strings"

	"oilcake/api"
)

// within reports whether all of some numbers are in a span.
func within(s api.Span, l ...int) bool {
	for _, n := range l {
		if n < s.Lo || n > s.Hi {
			return false
		}
	}
	return true
}

// unless returns an error unless something is so.
func unless(so bool, e api.Errno) api.Errno {
	if so {
		return api.OK
	}
	return e
}

// firstError returns the first of some codes that is an error, otherwise OK.
func firstError(l ...api.Errno) api.Errno {
	e, _ := first(slices.Values(l), func(e api.Errno) bool { return e != api.OK })
	return e
}

// question is something that is so of a code that is valid.
type question struct {
	so func(c api.Code) bool
}

// questions returns what a code is checked by. Words are held against each other only where they are few.
func questions() [3]question { return [3]question{{wordsFit}, {signsFit}, {wordsDiffer}} }

func wordsFit(c api.Code) bool {
	return within(api.Span{Lo: 1, Hi: api.MaxWords}, len(c.Words))
}

func signsFit(c api.Code) bool {
	return !slices.ContainsFunc(c.Words, func(w string) bool {
		return !within(api.Span{Lo: 1, Hi: api.MaxWord}, len(w)) || !signed(w)
	})
}

func wordsDiffer(c api.Code) bool {
	for i, w := range c.Words {
		if slices.Contains(c.Words[:i], w) {
			return false
		}
	}
	return true
}

// signed reports whether a string is signs, and nothing else.
func signed(s string) bool { return strings.Trim(s, stroke+dot) == "" }

// checkSigns returns the error of a code, or of signs that are too many, or are none.
func checkSigns(c api.Code, s string) api.Errno {
	return firstError(Check(c), unless(len(s) <= api.MaxSigns && signed(s), api.ErrSigns))
}

// checkOften returns the error of how often orders are sent.
func checkOften(often []int) api.Errno {
	return unless(within(api.Span{Lo: 1, Hi: api.MaxWords}, len(often)) && within(api.Span{Hi: api.MaxOften}, often...), api.ErrOften)
}
