package foreman

import "oilcake/api"

// within reports whether all of some numbers are in a span.
func within(s api.Span, l ...int) bool {
	for _, n := range l {
		if n < s.Lo || n > s.Hi {
			return false
		}
	}
	return true
}

// unless returns an error unless something is so.
func unless(so bool, e api.Errno) api.Errno {
	if so {
		return api.OK
	}
	return e
}

// checkText returns the error of a mill, or of a text that is too long.
func checkText(m api.Mill, text string) api.Errno {
	if e := Check(m); e != api.OK {
		return e
	}
	return unless(len(text) <= api.MaxText && countLines(text) <= api.MaxLines, api.ErrMany)
}
