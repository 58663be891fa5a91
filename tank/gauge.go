package tank

import (
	"iter"
	"slices"

	"oilcake/api"
)

// gauge is a log at work. Two steps lead from each time to the next one: what leaks, and the entry. It has what the tank can hold before the first step, and behind each.
type gauge struct {
	api.Tank
	count int
	steps [2 * api.MaxEntries]step
	holds [2*api.MaxEntries + 1]api.Span
}

// step is an entry, with its size in pints; what leaks is drawn.
type step struct {
	kind int
	size api.Span
}

// behind returns how many steps lead to a time.
func behind(at int) int { return 2 * at }

// work returns a valid log at work, in which nothing is known yet but the start.
func work(l api.Log) gauge {
	g := gauge{Tank: l.Tank}
	for k := range g.holds {
		g.holds[k].Hi = full(l.Tank)
	}
	g.holds[0] = l.Start
	for i, x := range l.Entries {
		leaks := step{kind: api.EntryDraw}
		if i > 0 {
			leaks.size.Hi = g.Leak * (x.Day - l.Entries[i-1].Day)
		}
		g.add(leaks)
		if x.Kind == api.EntryDip {
			x.Size = says(l.Tank, x.Size)
		}
		g.add(step{x.Kind, x.Size})
	}
	return g
}

func (g *gauge) add(s step) {
	g.steps[g.count] = s
	g.count++
}

// known returns a log at work with all that is known of it, or its error; ErrBad if it has no truth.
func known(l api.Log) (gauge, api.Errno) {
	if e := Valid(l); e != api.OK {
		return gauge{}, e
	}
	g := work(l)
	return g, unless(g.settle(), api.ErrBad)
}

// kind is what an entry does: what the tank can hold behind it by what it can hold before it and by its size, and the other way back.
type kind struct {
	forward, back func(holds, size api.Span) api.Span
}

// kinds returns all kinds of entries. They care neither for the bottom of the tank nor for its brim: what it can hold at all is narrowed by them.
func kinds() [api.EntryDip + 1]kind {
	return [api.EntryDip + 1]kind{
		api.EntryFill: {plus, minus},
		api.EntryDraw: {minus, plus},
		api.EntryDip:  {both, both},
	}
}

// goOn narrows what the tank can hold behind a step, and reports whether it can hold something.
func (g *gauge) goOn(k int) bool {
	s := g.steps[k]
	g.holds[k+1] = both(g.holds[k+1], kinds()[s.kind].forward(g.holds[k], s.size))
	return isSpan(g.holds[k+1])
}

// goBack narrows what the tank can have held before a step.
func (g *gauge) goBack(k int) {
	s := g.steps[k]
	g.holds[k] = both(g.holds[k], kinds()[s.kind].back(g.holds[k+1], s.size))
}

// settle narrows what the tank can hold to what it holds in truths, and reports whether there is one. Each step leads from one span to another, and only to the next: so going on tells of each what all before it leave, and going back what all behind it allow.
func (g *gauge) settle() bool {
	for k := range g.count {
		if !g.goOn(k) {
			return false
		}
	}
	for k := range slices.Backward(g.steps[:g.count]) {
		g.goBack(k)
	}
	return true
}

// hour is a time, with what the tank can hold then.
type hour struct {
	at    int
	holds api.Span
}

// times yields all times of the log, with what the tank can hold.
func (g *gauge) times() iter.Seq[hour] {
	return func(yield func(hour) bool) {
		for at := 0; behind(at) <= g.count; at++ {
			if !yield(hour{at, g.holds[behind(at)]}) {
				return
			}
		}
	}
}

// last returns what the tank can hold at the last time.
func (g *gauge) last() api.Span { return g.holds[g.count] }

// truth returns the first truth of a log that is settled. It holds the least at all times, for with two truths, what the one of them holds that holds less, time by time, is a truth, too.
func (g *gauge) truth() []int {
	var l []int
	for x := range g.times() {
		l = append(l, x.holds.Lo)
	}
	return l
}

// moved returns how many pints are moved by a step that is no dip; of a log that is settled.
func (g *gauge) moved(k int) api.Span {
	before, after, size := g.holds[k], g.holds[k+1], g.steps[k].size
	if g.steps[k].kind == api.EntryFill {
		return both(size, minus(after, before))
	}
	return both(size, minus(before, after))
}

// leaked returns the least or the most that leaks altogether, by picking the least or the most of what can leak, from time to time. None of these stands in the way of another one: take of two truths, at each time, the less of what both have lost till then, and the less of what both would hold if nothing leaked; this is a truth, too. So one truth has lost the least at all times, and likewise one the most.
func (g gauge) leaked(pick func(api.Span) int) int {
	all := 0
	for k := 0; k < g.count; k += 2 {
		n := pick(g.moved(k))
		g.steps[k].size = only(n)
		g.settle()
		all += n
	}
	return all
}

// ask returns the first eighth that leaves the fewest numbers of a span at most, and how many.
func (g *gauge) ask(s api.Span) (eighth, left int) {
	all := s.Hi - s.Lo + 1
	left = all
	for at := range height(g.Tank) + 1 {
		less := min(max(up(volume(g.Tank, at))-s.Lo, 0), all)
		if most := max(less, all-less); most < left {
			eighth, left = at, most
		}
	}
	return eighth, left
}
