package mark

import (
	"iter"
	"slices"

	"oilcake/api"
)

// heap is how many cakes still lie on stacks, by the steps that put them there.
type heap map[int]int

// taken returns how many cakes of some batches are taken in some steps, at least and at most. Where any cakes can be taken it is enough to look at two ways, because it never helps to leave a cake that is asked for to a later step: most are taken if these steps take such cakes first, and all other ones take them last; least the other way round.
func (m *mill) taken(some group, mine func(api.Step) bool) api.Span {
	return api.Span{
		Lo: m.count(some, mine, func(x api.Step) bool { return !mine(x) }),
		Hi: m.count(some, mine, mine),
	}
}

// count returns how many cakes of some batches are taken in some steps, if the eager ones take such cakes first, and all other ones take them last.
func (m *mill) count(some group, mine, eager func(api.Step) bool) int {
	all, h := 0, heap{}
	for step, x := range m.Steps {
		if x.Buyer == 0 {
			h[step] = x.Cakes
			continue
		}
		if n := m.take(h, step, some, eager(x)); mine(x) {
			all += n
		}
	}
	return all
}

// take takes the cakes of a step, and returns how many of them are of some batches.
func (m *mill) take(h heap, step int, some group, eager bool) int {
	of, left := 0, m.Steps[step].Cakes
	for _, put := range m.order(h, step, some, eager) {
		n := min(left, h[put])
		if left, h[put] = left-n, h[put]-n; h[put] == 0 {
			delete(h, put)
		}
		if m.puts(put, some) {
			of += n
		}
	}
	return of
}

// order returns the steps whose cakes lie on the stack of a later one, in the order in which this takes them: the uppermost first; but where any can be taken those of some batches first, or last.
func (m *mill) order(h heap, step int, some group, eager bool) []int {
	x := m.Steps[step]
	var l []int
	for put := range step {
		if h[put] > 0 && m.Steps[put].Stack == x.Stack {
			l = append(l, put)
		}
	}
	slices.Reverse(l)
	if m.Tops[x.Stack-1] {
		return l
	}
	is := func(put int) bool { return m.puts(put, some) == eager }
	isNot := func(put int) bool { return !is(put) }
	return slices.Concat(slices.Collect(kept(slices.Values(l), is)), slices.Collect(kept(slices.Values(l), isNot)))
}

// puts reports whether a step puts cakes of some batches.
func (m *mill) puts(step int, some group) bool {
	return slices.Contains(some, m.place(m.Steps[step].Batch))
}

// has returns how many cakes of some batches a buyer has taken.
func (m *mill) has(buyer int, some group) api.Span {
	return m.taken(some, func(x api.Step) bool { return x.Buyer == buyer })
}

// stays returns how many cakes of a batch lie on a stack in the end.
func (m *mill) stays(stack, batch int) api.Span {
	put := 0
	for _, x := range m.Steps {
		if x.Stack == stack && m.place(x.Batch) == batch {
			put += x.Cakes
		}
	}
	gone := m.taken(group{batch}, func(x api.Step) bool { return x.Stack == stack })
	return api.Span{Lo: put - gone.Hi, Hi: put - gone.Lo}
}

// buyers yields all who have taken cakes, in increasing order.
func (m *mill) buyers() iter.Seq[int] {
	all := told(slices.Values(m.Steps), func(x api.Step) int { return x.Buyer })
	took := kept(all, func(buyer int) bool { return buyer != 0 })
	return slices.Values(slices.Compact(slices.Sorted(took)))
}

// warned returns all buyers who have, in some truth and some way, a cake of a mark that is not of a pure batch.
func (m *mill) warned(mark int) []int {
	bad := m.bad(mark)
	return slices.Collect(kept(m.buyers(), func(buyer int) bool { return m.has(buyer, bad) != api.Span{} }))
}

// sure returns all buyers who have such a cake in each truth and each way.
func (m *mill) sure(mark int) []int {
	bad := m.together(mark)
	return slices.Collect(kept(m.buyers(), func(buyer int) bool {
		return !slices.ContainsFunc(bad, func(g group) bool { return m.has(buyer, g).Lo == 0 })
	}))
}
