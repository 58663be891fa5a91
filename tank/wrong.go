package tank

import (
	"iter"
	"slices"

	"oilcake/api"
)

// wrong returns the first of the shortest lists of dips without which a log has a truth, and whether there is one. All lists are tried, for with a dip less there need not be more truths: nothing leaks before the first entry.
func wrong(l api.Log) ([]int, bool) {
next:
	for times := range lists(dips(l)) {
		g := work(without(l, times...))
		for k := range g.count {
			if !g.goOn(k) {
				continue next
			}
		}
		return times, true
	}
	return nil, false
}

// dips returns the times of all dips.
func dips(l api.Log) []int {
	var times []int
	for i, x := range l.Entries {
		if x.Kind == api.EntryDip {
			times = append(times, i+1)
		}
	}
	return times
}

// lists yields all lists of some of these numbers: shorter ones first, and of those that are as long the first ones.
func lists(l []int) iter.Seq[[]int] {
	return func(yield func([]int) bool) {
		var longer func(begin, rest []int, more int) bool
		longer = func(begin, rest []int, more int) bool {
			if more == 0 {
				return yield(slices.Clone(begin))
			}
			for i, n := range rest {
				if !longer(append(begin, n), rest[i+1:], more-1) {
					return false
				}
			}
			return true
		}
		for n := range len(l) + 1 {
			if !longer(nil, l, n) {
				return
			}
		}
	}
}
