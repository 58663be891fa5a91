package mark

import (
	"iter"
	"slices"

	"oilcake/api"
)

// group is some batches, by their places in the list of all, in order.
type group []int

// pure reports whether all of some batches are pure.
func (g group) pure(t truth) bool {
	return !slices.ContainsFunc(g, func(i int) bool { return t.held[i] != only(api.KindLinseed) })
}

// show returns what some batches hold, and of all other ones nothing.
func (g group) show(t truth) held {
	var h held
	for _, i := range g {
		h[i] = t.held[i]
	}
	return h
}

// choose returns all batches of which something is so.
func (m *mill) choose(so func(batch int) bool) group {
	var g group
	for i := range m.Batches {
		if so(i) {
			g = append(g, i)
		}
	}
	return g
}

// ids returns the Ids of some batches.
func (m *mill) ids(g group) []int {
	return slices.Collect(told(slices.Values(g), func(i int) int { return m.Batches[i].Id }))
}

// marked returns all batches of a mark.
func (m *mill) marked(mark int) group {
	return m.choose(func(i int) bool { return m.Batches[i].Mark == mark })
}

// bad returns all batches of a mark that are not known to be pure.
func (m *mill) bad(mark int) group {
	return m.choose(func(i int) bool {
		return m.Batches[i].Mark == mark && m.known(group{i}.pure) != api.KnownYes
	})
}

// together returns all lists of batches of a mark that are just those that are not pure in some truth, each of them once.
func (m *mill) together(mark int) []group {
	all := told(slices.Values(m.truths), func(t truth) group {
		return m.choose(func(i int) bool { return m.Batches[i].Mark == mark && !group{i}.pure(t) })
	})
	return slices.CompactFunc(slices.SortedFunc(all, shorter), slices.Equal)
}

// groups yields all lists of batches: shorter ones first, and of those that are as long the first ones.
func (m *mill) groups() iter.Seq[group] {
	return func(yield func(group) bool) {
		var longer func(begin group, next, more int) bool
		longer = func(begin group, next, more int) bool {
			if more == 0 {
				return yield(slices.Clone(begin))
			}
			for i := next; i < len(m.Batches); i++ {
				if !longer(append(begin, i), i+1, more-1) {
					return false
				}
			}
			return true
		}
		for n := range len(m.Batches) + 1 {
			if !longer(nil, 0, n) {
				return
			}
		}
	}
}

// cleans reports whether some batches would be pure in every truth, had the stone been cleaned before others.
func (m *mill) cleans(others, some group) bool {
	return !slices.ContainsFunc(m.truths, func(t truth) bool { return !some.pure(m.cleaned(t, others)) })
}

// cleaned returns what would be so, had the stone been cleaned before some batches.
func (m *mill) cleaned(t truth, some group) truth {
	for _, i := range some {
		t.clean[i] = true
	}
	t.held = m.held(t)
	return t
}

// tells reports whether what some batches hold tells whether others are pure.
func (m *mill) tells(some, others group) bool {
	pure := map[held]bool{}
	for _, t := range m.truths {
		shown, is := some.show(t), others.pure(t)
		if was, seen := pure[shown]; seen && was != is {
			return false
		}
		pure[shown] = is
	}
	return true
}
