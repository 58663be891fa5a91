package wheel

import (
	"iter"
	"slices"

	"oilcake/api"
)

// shed is wheels at work, with those that are free as yet.
type shed struct {
	api.Wheels
	free map[int]bool
}

// work returns valid wheels at work.
func work(w api.Wheels) *shed {
	s := &shed{Wheels: w, free: map[int]bool{}}
	for i := range w.Teeth {
		s.free[i+1] = true
	}
	return s
}

// take uses the wheels of a pair, and reports whether both were free.
func (s *shed) take(p api.Pair) bool {
	if p.Driver == p.Driven || !s.free[p.Driver] || !s.free[p.Driven] {
		return false
	}
	delete(s.free, p.Driver)
	delete(s.free, p.Driven)
	return true
}

func (s *shed) give(p api.Pair) { s.free[p.Driver], s.free[p.Driven] = true, true }

// fits reports whether a train is valid. Its wheels are not free behind that.
func (s *shed) fits(l []api.Pair) bool {
	return within(api.Span{Lo: 1, Hi: api.MaxPairs}, len(l)) &&
		!slices.ContainsFunc(l, func(p api.Pair) bool { return !s.take(p) })
}

// trains yields all trains of at most so many pairs, shorter ones first, those that are as long in order.
func (s *shed) trains(most int) iter.Seq[[]api.Pair] {
	return func(yield func([]api.Pair) bool) {
		for n := range most {
			if !s.lengthen(nil, n+1, yield) {
				return
			}
		}
	}
}

// lengthen yields all trains that begin with some pairs and have so many more, and reports whether it goes on.
func (s *shed) lengthen(l []api.Pair, more int, yield func([]api.Pair) bool) bool {
	if more == 0 {
		return yield(slices.Clone(l))
	}
	for p := range s.pairs() {
		s.take(p)
		on := s.lengthen(append(l, p), more-1, yield)
		s.give(p)
		if !on {
			return false
		}
	}
	return true
}

// pairs yields all pairs of two wheels that are free, in order.
func (s *shed) pairs() iter.Seq[api.Pair] {
	return func(yield func(api.Pair) bool) {
		for driver := range s.spare() {
			for driven := range s.spare() {
				if driver != driven && !yield(api.Pair{Driver: driver, Driven: driven}) {
					return
				}
			}
		}
	}
}

// spare yields all wheels that are free, in order.
func (s *shed) spare() iter.Seq[int] {
	return func(yield func(int) bool) {
		for i := range s.Teeth {
			if s.free[i+1] && !yield(i+1) {
				return
			}
		}
	}
}

// nearest returns the first of the trains that come nearest to a wish, and how far it is, if there are two wheels.
func (s *shed) nearest(wish api.Part, pairs int) ([]api.Pair, api.Part) {
	var best []api.Pair
	var least api.Part
trains:
	for l := range s.trains(pairs) {
		off := apart(s.ratio(l), wish)
		switch {
		case best != nil && compare(off, least) >= 0:
			continue trains
		case off.Num == 0: // nothing comes nearer than this
			return l, off
		}
		best, least = l, off
	}
	return best, least
}

// teeth returns how many teeth the two wheels of a pair have.
func (s *shed) teeth(p api.Pair) [2]int { return [2]int{s.Teeth[p.Driver-1], s.Teeth[p.Driven-1]} }

// ratio returns how often the last wheel of a train turns, if the first one turns once.
func (s *shed) ratio(l []api.Pair) api.Part {
	num, den := 1, 1
	for _, p := range l {
		t := s.teeth(p)
		num, den = num*t[0], den*t[1]
	}
	return lowest(num, den)
}

// hunts reports whether each tooth of the one wheel of a pair meets each tooth of the other one.
func (s *shed) hunts(p api.Pair) bool {
	t := s.teeth(p)
	return gcd(t[0], t[1]) == 1
}

// again returns after how many turns of the first wheel all axles of a train have done whole turns.
func (s *shed) again(l []api.Pair) int {
	turns := 1
	for i := range l {
		turns = lcm(turns, s.ratio(l[:i+1]).Den)
	}
	return turns
}

// turns returns how many whole turns of a plan are done with the whole turns that a train makes of those of the water wheel.
func turns(water int, ratio api.Part, blows int) int { return water * ratio.Num / ratio.Den / blows }
