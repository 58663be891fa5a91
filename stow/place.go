package stow

import (
	"cmp"
	"iter"
	"slices"

	"oilcake/api"
)

// places yields all places of a ship, in order.
func (d *deck) places() iter.Seq[api.Place] {
	return func(yield func(api.Place) bool) {
		for _, h := range d.Holds {
			for depth := range api.MaxBags {
				if !yield(api.Place{Hold: h.Id, Depth: depth}) {
					return
				}
			}
		}
	}
}

// offer is a place, and how many ways it leaves at most.
type offer struct {
	place api.Place
	left  int
}

func (d *deck) offer(p api.Place) offer {
	var left [api.MaxMark + 1]int
	for _, w := range d.ways {
		left[d.at(w, p).Mark]++
	}
	return offer{p, slices.Max(left[:])}
}

// next returns the place that tells most; a ship has places.
func (d *deck) next() offer {
	best, _ := foremost(told(d.places(), d.offer), func(x, y offer) int { return cmp.Compare(x.left, y.left) })
	return best
}

// decide returns the first list of places that decide the verdict of a hold, and whether there is one.
func (d *deck) decide(hold int) ([]api.Place, bool) {
	return first(lists(d.different(), api.MaxPlaces), d.decider(hold))
}

// different returns, of all places that show the same in each way, the first one. Any other one is in no first list, for the first one would do as well.
func (d *deck) different() []api.Place {
	var l []api.Place
	seen := map[string]bool{}
	for p := range d.places() {
		var marks []byte
		for _, w := range d.ways {
			marks = append(marks, byte(d.at(w, p).Mark))
		}
		if !seen[string(marks)] {
			seen[string(marks)] = true
			l = append(l, p)
		}
	}
	return l
}

// lists yields all lists of at most so many of some places: shorter ones first, and of those that are as long the first ones.
func lists(l []api.Place, most int) iter.Seq[[]api.Place] {
	return func(yield func([]api.Place) bool) {
		var longer func(begin, rest []api.Place, more int) bool
		longer = func(begin, rest []api.Place, more int) bool {
			if more == 0 {
				return yield(slices.Clone(begin))
			}
			for i, p := range rest {
				if !longer(append(begin, p), rest[i+1:], more-1) {
					return false
				}
			}
			return true
		}
		for n := range most + 1 {
			if !longer(nil, l, n) {
				return
			}
		}
	}
}

// shown is the marks that some places show.
type shown [api.MaxPlaces]int

func (d *deck) shown(w way, l []api.Place) shown {
	var marks shown
	for i, p := range l {
		marks[i] = d.at(w, p).Mark
	}
	return marks
}

// rivals are two ways that do not agree on a verdict.
type rivals [2]way

// decider returns what tells whether some places decide the verdict of a hold. It keeps rivals that some places did not tell apart, for most other places do not, either.
func (d *deck) decider(hold int) func([]api.Place) bool {
	var kept []rivals
	return func(l []api.Place) bool {
		for _, r := range kept {
			if d.shown(r[0], l) == d.shown(r[1], l) {
				return false
			}
		}
		r, some := d.rivals(hold, l)
		if some {
			kept = append(kept, r)
		}
		return !some
	}
}

// rivals returns rivals that some places do not tell apart, and whether there are such.
func (d *deck) rivals(hold int, l []api.Place) (rivals, bool) {
	known := map[shown]way{}
	for _, w := range d.ways {
		marks := d.shown(w, l)
		other, is := known[marks]
		if is && d.clean(d.draw(w, hold)) != d.clean(d.draw(other, hold)) {
			return rivals{other, w}, true
		}
		known[marks] = w
	}
	return rivals{}, false
}
