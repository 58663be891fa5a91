package round

import "iter"

// first returns the first of all that is as it is asked for, and whether there is one.
func first[T any](all iter.Seq[T], is func(T) bool) (T, bool) {
	for x := range all {
		if is(x) {
			return x, true
		}
	}
	var none T
	return none, false
}

// numbers yields all numbers of a span.
func numbers(lo, hi int) iter.Seq[int] {
	return func(yield func(int) bool) {
		for n := lo; n <= hi; n++ {
			if !yield(n) {
				return
			}
		}
	}
}
