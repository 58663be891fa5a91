package foreman

import "iter"

// first returns the first of all that is as it is asked for; a zero value, if there is none.
func first[T any](all iter.Seq[T], is func(T) bool) (one T) {
	for x := range all {
		if is(x) {
			return x
		}
	}
	return one
}
