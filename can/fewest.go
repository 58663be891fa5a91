package can

import (
	"iter"
	"maps"
	"math"
	"slices"

	"oilcake/api"
)

// anything is wanted of a can of which it does not matter what it holds.
const anything = -1

// amount is pints that are measured at a bench.
type amount struct {
	*bench
	pints int
}

func (a amount) inOne(s inside) bool { return slices.Contains(a.cans(s), a.pints) }

func (a amount) inAll(s inside) bool { return sum(a.cans(s)) == a.pints }

// wants is what is wanted of each can.
type wants []int

func (w wants) inEach(s inside) bool {
	for i, n := range w {
		if n != anything && s[i+1] != n {
			return false
		}
	}
	return true
}

// reach returns all that can be inside, and by how many pourings at least.
func (b *bench) reach() map[inside]int {
	reached := map[inside]int{b.now(): 0}
	ahead := map[inside]bool{b.now(): true}
	for n := 1; len(ahead) > 0; n++ {
		for _, s := range slices.Collect(maps.Keys(ahead)) {
			delete(ahead, s)
			for x := range b.steps(s) {
				if _, known := reached[x.end]; !known {
					reached[x.end], ahead[x.end] = n, true
				}
			}
		}
	}
	return reached
}

// made returns all amounts that some can holds, and by how many pourings at least.
func (b *bench) made() map[int]int {
	made := map[int]int{}
	for s, n := range b.reach() {
		for _, pints := range b.cans(s) {
			if least, known := made[pints]; !known || n < least {
				made[pints] = n
			}
		}
	}
	return made
}

// search is a bench at which an aim is looked for: it knows all that can be inside, and by how many pourings the aim is reached, if it can be.
type search struct {
	*bench
	aim     func(inside) bool
	reached map[inside]int
	many    int
	some    bool
}

// look returns the search for an aim.
func (b *bench) look(aim func(inside) bool) search {
	f := search{bench: b, aim: aim, reached: b.reach()}
	for s, n := range f.reached {
		if aim(s) && (!f.some || n < f.many) {
			f.many, f.some = n, true
		}
	}
	return f
}

// ahead yields the steps to what cannot be reached by fewer pourings. The fewest pourings for an aim have no other ones.
func (f search) ahead(s inside) iter.Seq[step] {
	return func(yield func(step) bool) {
		for x := range f.steps(s) {
			if f.reached[x.end] == f.reached[s]+1 && !yield(x) {
				return
			}
		}
	}
}

// tooMuch is poured back where an aim is not reached by the fewest pourings: more than any of these pour back.
const tooMuch = math.MaxInt / 2

// least returns what tells how much is poured back at least on the way from something to the aim, by the fewest pourings. It keeps what it told, for many pourings lead to the same.
func (f search) least() func(inside) int {
	told := map[inside]int{}
	var least func(s inside) int
	least = func(s inside) int {
		if f.aim(s) {
			return 0
		}
		back, known := told[s]
		if !known {
			back = tooMuch
			if f.reached[s] < f.many {
				for x := range f.ahead(s) {
					back = min(back, x.back()+least(x.end))
				}
			}
			told[s] = back
		}
		return back
	}
	return least
}

// fewest returns the fewest pourings for an aim, and how much they pour back; ErrNone if there are none.
func (b *bench) fewest(aim func(inside) bool) ([]api.Pouring, int, api.Errno) {
	f := b.look(aim)
	if !f.some {
		return nil, 0, api.ErrNone
	}
	var l []api.Pouring
	least := f.least()
	s := f.now()
	for range f.many {
		x, _ := first(f.ahead(s), func(x step) bool { return x.back()+least(x.end) == least(s) })
		l, s = append(l, x.Pouring), x.end
	}
	return l, least(f.now()), api.OK
}
