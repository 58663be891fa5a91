package turn

import (
	"iter"
	"slices"

	"oilcake/api"
)

// wrong returns the fewest notes without which there is a truth, that is, without which there is no clash. A clash of which no note is struck stays, so that a list that spares one of those that were found need not be tried.
func (l *ledger) wrong() ([]int, api.Errno) {
	var found []clash
	for numbers := range l.lists(api.MaxStruck) {
		if slices.ContainsFunc(found, func(c clash) bool { return !c.loses(numbers) }) {
			continue
		}
		c, some := work(without(l.Roll, numbers...)).shortest()
		if !some {
			return numbers, api.OK
		}
		found = append(found, c)
	}
	return nil, api.ErrMany
}

// loses reports whether one of some notes is in a clash.
func (c clash) loses(numbers []int) bool {
	return slices.ContainsFunc(numbers, func(n int) bool { return slices.Contains(c.down, n) || slices.Contains(c.up, n) })
}

// lists yields all lists of at most so many notes, by their Numbers: shorter ones first, and of those that are as long the first ones.
func (l *ledger) lists(most int) iter.Seq[[]int] {
	return func(yield func([]int) bool) {
		for n := range most + 1 {
			if !l.longer(nil, 0, n, yield) {
				return
			}
		}
	}
}

// longer yields all lists that begin with one, with so many more notes from one on, and reports whether to go on.
func (l *ledger) longer(begin []int, from, more int, yield func([]int) bool) bool {
	if more == 0 {
		return yield(slices.Clone(begin))
	}
	for k := from; k < len(l.Notes); k++ {
		if !l.longer(append(begin, l.Notes[k].Number), k+1, more-1, yield) {
			return false
		}
	}
	return true
}
