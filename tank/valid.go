package tank

import (
	"iter"
	"slices"

	"oilcake/api"
)

// within reports whether all of some numbers are in a span.
func within(s api.Span, l ...int) bool {
	for _, n := range l {
		if n < s.Lo || n > s.Hi {
			return false
		}
	}
	return true
}

// unless returns an error unless something is so.
func unless(so bool, e api.Errno) api.Errno {
	if so {
		return api.OK
	}
	return e
}

// firstError returns the first of some codes that is an error, otherwise OK.
func firstError(l ...api.Errno) api.Errno {
	e, _ := first(slices.Values(l), func(e api.Errno) bool { return e != api.OK })
	return e
}

// first returns the first of all that is as it is asked for, and whether there is one.
func first[T any](all iter.Seq[T], is func(T) bool) (T, bool) {
	for x := range all {
		if is(x) {
			return x, true
		}
	}
	var none T
	return none, false
}

// inOrder reports whether each number is greater than the one before it.
func inOrder(l []int) bool {
	for i := 1; i < len(l); i++ {
		if l[i] <= l[i-1] {
			return false
		}
	}
	return true
}

// validEntries reports whether all entries of a log with a valid tank are valid.
func validEntries(l api.Log) bool {
	day := 0
	for _, x := range l.Entries {
		most := full(l.Tank)
		if x.Kind == api.EntryDip {
			most = height(l.Tank)
		}
		kind := within(api.Span{Lo: api.EntryFill, Hi: api.EntryDip}, x.Kind)
		if !kind || !within(api.Span{Lo: day, Hi: api.MaxDay}, x.Day) || !isSpanTo(most, x.Size) {
			return false
		}
		day = x.Day
	}
	return true
}

func checkTime(times api.Span, at int) api.Errno { return unless(within(times, at), api.ErrArg) }

// checkPints returns the error of pints that a tank with a table has no room for.
func checkPints(t api.Tank, pints int) api.Errno {
	return unless(within(api.Span{Hi: full(t)}, pints), api.ErrArg)
}
