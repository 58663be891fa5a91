package mark_test

import (
	"cmp"
	"math/rand"
	"slices"

	"oilcake/api"
)

func span(lo, hi int) api.Span { return api.Span{Lo: lo, Hi: hi} }

func trial(number, batch, kind int, found bool) api.Trial {
	return api.Trial{Number: number, Batch: batch, Kind: kind, Found: found}
}

func put(stack, batch, cakes int) api.Step {
	return api.Step{Stack: stack, Batch: batch, Cakes: cakes}
}

func take(stack, buyer, cakes int) api.Step {
	return api.Step{Stack: stack, Buyer: buyer, Cakes: cakes}
}

// example is the marks of the chapter's examples, with trials.
func example(trials ...api.Trial) api.Marks {
	return api.Marks{
		Batches: []api.Batch{
			{Id: 1, Kind: 2, Stone: 1, Cakes: 10},
			{Id: 2, Kind: 1, Stone: 1, Clean: api.KnownOpen, Mark: 1, Cakes: 20},
			{Id: 3, Kind: 1, Stone: 2, From: 1, Round: api.KnownOpen, Mark: 1, Cakes: 10},
			{Id: 4, Kind: 3, Stone: 2, Clean: api.KnownYes, Cakes: 5},
			{Id: 5, Kind: 1, Stone: 1, Mark: 1, Cakes: 8},
		},
		Trials: trials,
		Tops:   []bool{false, true},
		Steps: []api.Step{
			put(1, 2, 10), put(1, 3, 5), take(1, 70, 3), put(2, 3, 4), put(2, 5, 8), take(2, 71, 9), take(1, 72, 11),
		},
	}
}

// line is batches 1, 2 and so on of these kinds on one stone, which was never cleaned, all of the mark 1.
func line(kinds ...int) api.Marks {
	var m api.Marks
	for i, k := range kinds {
		m.Batches = append(m.Batches, api.Batch{Id: i + 1, Kind: k, Stone: 1, Mark: 1, Cakes: 9})
	}
	return m
}

// with is marks of their own memory, changed.
func with(m api.Marks, change func(m *api.Marks)) api.Marks {
	m.Batches, m.Trials = slices.Clone(m.Batches), slices.Clone(m.Trials)
	m.Tops, m.Steps = slices.Clone(m.Tops), slices.Clone(m.Steps)
	change(&m)
	return m
}

// tried is marks with these trials and no other ones.
func tried(m api.Marks, l ...api.Trial) api.Marks {
	return with(m, func(m *api.Marks) { m.Trials = l })
}

// dropped is marks without some trials.
func dropped(m api.Marks, numbers ...int) api.Marks {
	return with(m, func(m *api.Marks) {
		m.Trials = slices.DeleteFunc(m.Trials, func(x api.Trial) bool { return slices.Contains(numbers, x.Number) })
	})
}

func same(m, n api.Marks) bool {
	return slices.Equal(m.Batches, n.Batches) && slices.Equal(m.Trials, n.Trials) && slices.Equal(m.Tops, n.Tops) && slices.Equal(m.Steps, n.Steps)
}

// world is what is so: before which batches, by their Ids, the stone was cleaned, and into which parings went.
type world struct{ clean, round map[int]bool }

// told are all ways in which one thing can be known.
func told(known uint8) []bool {
	return [][]bool{{false}, {true, false}, {true}}[known]
}

// worlds are all that can be, whatever was tried.
func worlds(m api.Marks) []world {
	all := []world{{map[int]bool{}, map[int]bool{}}}
	for _, b := range m.Batches {
		var next []world
		for _, w := range all {
			for _, clean := range told(b.Clean) {
				for _, round := range told(b.Round) {
					v := world{map[int]bool{b.Id: clean}, map[int]bool{b.Id: round}}
					for id := range w.clean {
						v.clean[id], v.round[id] = w.clean[id], w.round[id]
					}
					next = append(next, v)
				}
			}
		}
		all = next
	}
	return all
}

func find(m api.Marks, id int) api.Batch {
	for _, b := range m.Batches {
		if b.Id == id {
			return b
		}
	}
	return api.Batch{}
}

// gave is whether a batch gave all that it holds to another one.
func (w world) gave(m api.Marks, from, to int) bool {
	if w.round[to] && find(m, to).From == from {
		return true
	}
	last := 0 // on the stone, before the one to which is given
	for _, b := range m.Batches {
		if b.Id < to && b.Stone == find(m, to).Stone {
			last = b.Id
		}
	}
	return last == from && !w.clean[to]
}

// holds is whether a batch holds a kind, by all from which it can have come.
func (w world) holds(m api.Marks, id, kind int) bool {
	if find(m, id).Kind == kind {
		return true
	}
	return slices.ContainsFunc(m.Batches, func(b api.Batch) bool {
		return b.Id < id && w.gave(m, b.Id, id) && w.holds(m, b.Id, kind)
	})
}

func (w world) pure(m api.Marks, id int) bool {
	return w.holds(m, id, 1) && !w.holds(m, id, 2) && !w.holds(m, id, 3) && !w.holds(m, id, 4)
}

// bad are all batches of a mark that are not pure.
func (w world) bad(m api.Marks, mark int) []int {
	var l []int
	for _, b := range m.Batches {
		if b.Mark == mark && !w.pure(m, b.Id) {
			l = append(l, b.Id)
		}
	}
	return l
}

// lies are the Numbers of the trials that are not true.
func (w world) lies(m api.Marks) []int {
	var l []int
	for _, x := range m.Trials {
		if w.holds(m, x.Batch, x.Kind) != x.Found {
			l = append(l, x.Number)
		}
	}
	return l
}

// truths are all that can be by what was tried.
func truths(m api.Marks) []world {
	return slices.DeleteFunc(worlds(m), func(w world) bool { return len(w.lies(m)) > 0 })
}

// known is what is known of something, of which it is told whether it is so.
func known(l []world, so func(w world) bool) uint8 {
	count := 0
	for _, w := range l {
		if so(w) {
			count++
		}
	}
	switch count {
	case len(l):
		return api.KnownYes
	case 0:
		return api.KnownNo
	}
	return api.KnownOpen
}

// lists are all lists of some numbers, in the order in which they are: shorter ones first.
func lists(l []int) [][]int {
	all := [][]int{nil}
	for _, n := range l {
		for _, k := range all[:len(all):len(all)] {
			all = append(all, append(slices.Clone(k), n))
		}
	}
	slices.SortFunc(all, func(x, y []int) int { return cmp.Or(len(x)-len(y), slices.Compare(x, y)) })
	return all
}

// first is the first list of which something is so, and whether there is one.
func first(all [][]int, so func(l []int) bool) ([]int, bool) {
	if i := slices.IndexFunc(all, so); i >= 0 {
		return all[i], true
	}
	return nil, false
}

func ids(m api.Marks) []int {
	var l []int
	for _, b := range m.Batches {
		l = append(l, b.Id)
	}
	return l
}

// buyers are all who took cakes, in increasing order, each of them once.
func buyers(m api.Marks) []int {
	var l []int
	for _, x := range m.Steps {
		if x.Buyer != 0 {
			l = append(l, x.Buyer)
		}
	}
	slices.Sort(l)
	return slices.Compact(l)
}

// fate is how many cakes of batches buyers have, and lie on stacks in the end: by the buyer or the stack, and the batch.
type fate struct{ has, lies map[[2]int]int }

// cart is a mill where cakes are put and taken one by one; each cake is the Id of its batch.
type cart struct {
	m      api.Marks
	stacks map[int][]int // from the bottom up
	has    map[[2]int]int
	tell   func(f fate)
}

// fates tells all ways in which cakes can have been taken, more than once where they do not differ.
func fates(m api.Marks, tell func(f fate)) {
	c := cart{m, map[int][]int{}, map[[2]int]int{}, tell}
	c.play(0)
}

func (c cart) play(step int) {
	if step == len(c.m.Steps) {
		lies := map[[2]int]int{}
		for s, l := range c.stacks {
			for _, id := range l {
				lies[[2]int{s, id}]++
			}
		}
		c.tell(fate{c.has, lies})
		return
	}
	x := c.m.Steps[step]
	if x.Buyer == 0 {
		before := c.stacks[x.Stack]
		c.stacks[x.Stack] = slices.Concat(before, slices.Repeat([]int{x.Batch}, x.Cakes))
		c.play(step + 1)
		c.stacks[x.Stack] = before
		return
	}
	c.takes(step, x.Cakes, len(c.stacks[x.Stack])-1)
}

// takes takes so many more cakes, the next one not above a place; where any can be taken one of each batch is tried, so that all choices are met.
func (c cart) takes(step, more, top int) {
	if more == 0 {
		c.play(step + 1)
		return
	}
	x := c.m.Steps[step]
	before := c.stacks[x.Stack]
	tried := map[int]bool{}
	for i := top; i >= 0 && !(c.m.Tops[x.Stack-1] && len(tried) > 0); i-- {
		id := before[i]
		if tried[id] {
			continue
		}
		tried[id] = true
		c.stacks[x.Stack] = slices.Delete(slices.Clone(before), i, i+1)
		c.has[[2]int{x.Buyer, id}]++
		c.takes(step, more-1, i-1)
		c.has[[2]int{x.Buyer, id}]--
	}
	c.stacks[x.Stack] = before
}

// increasing are so many numbers from 1 on that increase.
func increasing(r *rand.Rand, count int) []int {
	l := make([]int, count)
	n := 0
	for i := range l {
		n += 1 + r.Intn(4)
		l[i] = n
	}
	return l
}

// random is valid marks with so many batches, of which so many things are open at most, and with trials of which nearly all are true.
func random(r *rand.Rand, batches, open int) api.Marks {
	var m api.Marks
	stones, kinds, marks := 1+r.Intn(3), 2+r.Intn(3), 1+r.Intn(3)
	know := func() uint8 {
		k := []uint8{api.KnownNo, api.KnownOpen, api.KnownOpen, api.KnownYes}[r.Intn(4)]
		if k == api.KnownOpen {
			if open == 0 {
				return api.KnownNo
			}
			open--
		}
		return k
	}
	for i, id := range increasing(r, batches) {
		b := api.Batch{Id: id, Kind: 1, Stone: 1 + r.Intn(stones), Clean: know(), Mark: 1 + r.Intn(marks), Cakes: 1 + r.Intn(100)}
		if r.Intn(3) == 0 { // seldom marked, so that marks are not all bad
			b.Kind = 1 + r.Intn(kinds)
			if r.Intn(8) > 0 {
				b.Mark = 0
			}
		}
		if i > 0 && r.Intn(3) == 0 {
			b.From, b.Round = m.Batches[r.Intn(i)].Id, know()
		}
		m.Batches = append(m.Batches, b)
	}
	if batches > 0 {
		m.Trials = trials(r, m, increasing(r, r.Intn(2)*r.Intn(6)))
	}
	return m
}

// trials are some that are true in one world, nearly all.
func trials(r *rand.Rand, m api.Marks, numbers []int) []api.Trial {
	all := worlds(m)
	w := all[r.Intn(len(all))]
	var l []api.Trial
	for _, n := range numbers {
		x := trial(n, m.Batches[r.Intn(len(m.Batches))].Id, 1+r.Intn(4), false)
		x.Found = w.holds(m, x.Batch, x.Kind) != (r.Intn(10) == 0)
		l = append(l, x)
	}
	return l
}

// stepped is marks with steps: cakes of at most so many batches are put and taken, a few at a time.
func stepped(r *rand.Rand, m api.Marks, batches, steps, cakes int) api.Marks {
	return with(m, func(m *api.Marks) {
		for range 1 + r.Intn(3) {
			m.Tops = append(m.Tops, r.Intn(3) == 0)
		}
		left, lying := map[int]int{}, map[int]int{}
		for i := range m.Batches {
			left[m.Batches[i].Id] = m.Batches[i].Cakes
		}
		from := r.Intn(max(1, len(m.Batches)-batches+1))
		for len(m.Steps) < steps {
			stack, n := 1+r.Intn(len(m.Tops)), 1+r.Intn(cakes)
			id := m.Batches[min(len(m.Batches)-1, from+r.Intn(batches))].Id
			if r.Intn(2) == 0 {
				if n = min(n, left[id]); n > 0 {
					m.Steps = append(m.Steps, put(stack, id, n))
					left[id], lying[stack] = left[id]-n, lying[stack]+n
				}
			} else if n = min(n, lying[stack]); n > 0 {
				m.Steps = append(m.Steps, take(stack, 1+r.Intn(4), n))
				lying[stack] -= n
			} else {
				steps--
			}
		}
	})
}

// marks calls back with marks that have a truth, at least a batch, and so many of these at most.
func marks(seed int64, count, batches, open int, f func(r *rand.Rand, m api.Marks)) {
	r := rand.New(rand.NewSource(seed))
	for done := 0; done < count; {
		if m := random(r, 1+r.Intn(batches), open); len(truths(m)) > 0 {
			f(r, m)
			done++
		}
	}
}
