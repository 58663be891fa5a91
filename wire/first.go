package wire

import "iter"

// first returns the first of all that is as it is asked for, and whether there is one.
func first[T any](all iter.Seq[T], is func(T) bool) (T, bool) {
	for x := range all {
		if is(x) {
			return x, true
		}
	}
	var none T
	return none, false
}

// foremost returns the first of several things by an order, of those that it does not tell apart the one that comes first, and whether there is one.
func foremost[T any](all iter.Seq[T], order func(x, y T) int) (T, bool) {
	var best T
	some := false
	for x := range all {
		if !some || order(x, best) < 0 {
			best, some = x, true
		}
	}
	return best, some
}
