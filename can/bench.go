package can

import (
	"iter"
	"slices"

	"oilcake/api"
)

// source is the number of the tank among the cans.
const source = 0

// inside is what is in the tank, and in each can, by their numbers. What is behind the last can is never set, so that equal ones are the same.
type inside [api.MaxCans + 1]int

// step is a pouring that can be, how many pints it pours, and what is inside then.
type step struct {
	api.Pouring
	pints int
	end   inside
}

// back returns how much a step pours back into the tank.
func (x step) back() int {
	if x.To == source {
		return x.pints
	}
	return 0
}

// bench is cans at work, with all valid pourings, in order.
type bench struct {
	api.Cans
	pourings []api.Pouring
}

// work returns valid cans at work.
func work(c api.Cans) *bench {
	b := &bench{Cans: c}
	for from := range len(c.Sizes) + 1 {
		for to := range len(c.Sizes) + 1 {
			if from != to {
				b.pourings = append(b.pourings, api.Pouring{From: from, To: to})
			}
		}
	}
	return b
}

// checkPouring returns the error of a pouring that is not valid.
func (b *bench) checkPouring(x api.Pouring) api.Errno {
	return unless(slices.Contains(b.pourings, x), api.ErrPouring)
}

// now returns what is inside at first.
func (b *bench) now() inside {
	s := inside{source: b.Stock}
	copy(s[1:], b.In)
	return s
}

// cans returns what is in each can.
func (b *bench) cans(s inside) []int { return s[1 : len(b.Sizes)+1] }

// holding returns cans of their own memory, in which there is something else.
func (b *bench) holding(s inside) api.Cans {
	return api.Cans{Sizes: slices.Clone(b.Sizes), In: slices.Clone(b.cans(s)), Stock: s[source]}
}

// most returns how much a can, or the tank, can hold.
func (b *bench) most(n int) int {
	if n == source {
		return api.MaxPints
	}
	return b.Sizes[n-1]
}

// pour returns what a valid pouring does, and whether it can be. As much is poured as there is, and as there is room for; but from the tank no can is filled in part, and none is poured back into it in part.
func (b *bench) pour(s inside, x api.Pouring) (step, bool) {
	has, room := s[x.From], b.most(x.To)-s[x.To]
	n := min(has, room)
	part := x.From == source && n < room || x.To == source && n < has
	return step{x, n, moved(s, x, n)}, n > 0 && !part
}

// moved returns what is inside when some pints went where a pouring leads.
func moved(s inside, x api.Pouring, pints int) inside {
	s[x.From] -= pints
	s[x.To] += pints
	return s
}

// steps yields the pourings that can be, in order, with what they lead to.
func (b *bench) steps(s inside) iter.Seq[step] {
	return func(yield func(step) bool) {
		for _, x := range b.pourings {
			if y, can := b.pour(s, x); can && !yield(y) {
				return
			}
		}
	}
}

// play yields what each pouring of a list does, one after the other, up to the first one with an error, and this error.
func (b *bench) play(l []api.Pouring) iter.Seq2[step, api.Errno] {
	return func(yield func(step, api.Errno) bool) {
		s := b.now()
		for _, x := range l {
			if e := b.checkPouring(x); e != api.OK {
				yield(step{}, e)
				return
			}
			y, can := b.pour(s, x)
			if !can {
				yield(step{}, api.ErrNone)
				return
			}
			if !yield(y, api.OK) {
				return
			}
			s = y.end
		}
	}
}

// before returns all that can have been inside before a valid pouring, in order. It poured some pints: with these put back, there has to be room for all, and the pouring has to lead here.
func (b *bench) before(s inside, x api.Pouring) []inside {
	var l []inside
	wayBack := api.Pouring{From: x.To, To: x.From}
next:
	for n := range api.MaxSize {
		p := moved(s, wayBack, n+1)
		for can := range len(b.Sizes) + 1 {
			if !within(api.Span{Hi: b.most(can)}, p[can]) {
				continue next
			}
		}
		if y, can := b.pour(p, x); can && y.end == s {
			l = append(l, p)
		}
	}
	slices.SortFunc(l, func(p, q inside) int { return slices.Compare(b.cans(p), b.cans(q)) })
	return l
}
