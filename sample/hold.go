package sample

import (
	"iter"

	"oilcake/api"
)

// hold is a cargo at work, with what counts sets of its bags.
type hold struct {
	api.Cargo
	sets func(n, k int) int
}

func work(c api.Cargo) hold { return hold{Cargo: c, sets: counter()} }

// counter returns a function that counts the sets of k of n things; there are none if n or k is below 0. It keeps what it told, for otherwise it would count the same sets again and again.
func counter() func(n, k int) int {
	told := map[[2]int]int{}
	var count func(n, k int) int
	count = func(n, k int) int {
		if k < 0 || k > n {
			return 0
		}
		if k == 0 || k == n {
			return 1
		}
		key := [2]int{n, k}
		if ways, ok := told[key]; ok {
			return ways
		}
		ways := count(n-1, k-1) + count(n-1, k)
		told[key] = ways
		return ways
	}
	return count
}

// draws returns how many sets of so many bags there are.
func (h hold) draws(opened int) int { return h.sets(h.Bags, opened) }

// ways returns the ways of a draw with a number of dirty bags.
func (h hold) ways(dirty int, d api.Draw) int {
	return h.sets(dirty, d.Found) * h.sets(h.Bags-dirty, d.Opened-d.Found)
}

// sum adds up what each set of so many bags is worth.
func (h hold) sum(dirty, opened int, worth func(api.Draw) int) int {
	all := 0
	for found := range opened + 1 {
		d := api.Draw{Opened: opened, Found: found}
		all += h.ways(dirty, d) * worth(d)
	}
	return all
}

// few returns how many sets of so many bags have at most so many dirty ones.
func (h hold) few(dirty, opened, most int) int {
	return h.sum(dirty, opened, func(d api.Draw) int {
		if d.Found <= most {
			return 1
		}
		return 0
	})
}

// atMost returns the chance that at most so many are dirty as were found.
func (h hold) atMost(dirty int, d api.Draw) api.Part {
	return part(h.few(dirty, d.Opened, d.Found), h.draws(d.Opened))
}

// can reports whether a number of dirty bags can be after a draw.
func (h hold) can(dirty int, d api.Draw) bool {
	return within(h.Dirty, dirty) && h.ways(dirty, d) > 0
}

// numbers yields the numbers of dirty bags that can be after a draw, in increasing order.
func (h hold) numbers(d api.Draw) iter.Seq[int] {
	return func(yield func(int) bool) {
		for dirty := range upTo(h.Bags) {
			if h.can(dirty, d) && !yield(dirty) {
				return
			}
		}
	}
}

// explained returns the draws of so many bags after which a number of dirty bags can be.
func (h hold) explained(opened int) map[api.Draw]bool {
	draws := map[api.Draw]bool{}
	for found := range opened + 1 {
		draws[api.Draw{Opened: opened, Found: found}] = true
	}
	for d := range draws {
		explains := func(dirty int) bool { return h.can(dirty, d) }
		if _, some := first(upTo(h.Bags), explains); !some {
			delete(draws, d)
		}
	}
	return draws
}

// span returns the least and the greatest number that can be after a draw that is explained.
func (h hold) span(d api.Draw) api.Span {
	s := api.Span{Lo: h.Bags}
	for dirty := range h.numbers(d) {
		s.Lo = min(s.Lo, dirty)
		s.Hi = max(s.Hi, dirty)
	}
	return s
}

// likely returns the numbers that can be for which a draw has the most ways; they have its greatest chance, for the sets of so many bags are as many for all of them.
func (h hold) likely(d api.Draw) []int {
	var l []int
	most := 0
	for dirty := range h.numbers(d) {
		ways := h.ways(dirty, d)
		if ways > most {
			l, most = nil, ways
		}
		if ways == most {
			l = append(l, dirty)
		}
	}
	return l
}

// bound returns the greatest number that can be after a draw with at least a chance, and whether there is one.
func (h hold) bound(d api.Draw, p api.Part) (greatest int, some bool) {
	for dirty := range h.numbers(d) {
		if reaches(h.atMost(dirty, d), p) {
			greatest, some = dirty, true
		}
	}
	return greatest, some
}

// find returns the fewest bags of which one is dirty with at least a chance, and whether there are so many.
func (h hold) find(dirty int, p api.Part) (int, bool) {
	return first(upTo(h.Bags), func(opened int) bool {
		return reaches(not(h.atMost(dirty, api.Draw{Opened: opened})), p)
	})
}

// upTo yields all numbers from 0 to n.
func upTo(n int) iter.Seq[int] {
	return func(yield func(int) bool) {
		for i := range n + 1 {
			if !yield(i) {
				return
			}
		}
	}
}

// first returns the first of all that is as it is asked for, and whether there is one.
func first[T any](all iter.Seq[T], is func(T) bool) (T, bool) {
	for x := range all {
		if is(x) {
			return x, true
		}
	}
	var none T
	return none, false
}
