package turn

import (
	"iter"
	"slices"

	"oilcake/api"
)

// place is where a man and a shift are in a roll.
type place struct{ shift, man int }

// crew is who was there at a shift, by the men's places.
type crew [api.MaxMen]bool

// truth is who was there at each shift, by the places of all.
type truth [api.MaxShifts]crew

func (t truth) at(p place) bool { return t[p.shift][p.man] }

// side is a thing by its place.
type side struct {
	place
	there bool
}

func (s side) so(t truth) bool { return t.at(s.place) == s.there }

// claim is a note by its sides.
type claim struct{ one, other side }

// ledger is a roll at work, with the places of all its things, in order, the claims that can be judged as soon as each place is settled, and the steps from each thing, by the Numbers of the notes.
type ledger struct {
	api.Roll
	places []place
	due    [][]claim
	steps  map[api.Thing][]step
}

// work returns a valid roll at work.
func work(r api.Roll) *ledger {
	l := &ledger{Roll: r, steps: map[api.Thing][]step{}}
	for shift := range len(r.Shifts) {
		for man := range len(r.Men) {
			l.places = append(l.places, place{shift, man})
		}
	}
	l.due = make([][]claim, len(l.places))
	for _, x := range r.Notes {
		c := claim{l.side(x.One), l.side(x.Other)}
		last := max(l.index(c.one.place), l.index(c.other.place))
		l.due[last] = append(l.due[last], c)
		l.lead(x)
	}
	return l
}

// working returns a roll at work, with the error of a roll that is not valid, of things that are not its own, or of one without a truth.
func working(r api.Roll, things ...api.Thing) (*ledger, api.Errno) {
	if e := firstError(Check(r), checkThings(r, things...)); e != api.OK {
		return nil, e
	}
	l := work(r)
	return l, unless(l.may(), api.ErrBad)
}

// index returns which one of all places a place is.
func (l *ledger) index(p place) int { return slices.Index(l.places, p) }

// side returns a thing of the roll by its place.
func (l *ledger) side(x api.Thing) side {
	return side{place{shiftOf(l.Roll, x.Pressing), slices.Index(l.Men, x.Man)}, x.There}
}

// thing returns that a man was there.
func (l *ledger) thing(p place) api.Thing {
	return api.Thing{Man: l.Men[p.man], Pressing: l.Shifts[p.shift].Pressing, There: true}
}

// truths yields all truths, in order. Place by place it is tried that the man was not there, and that he was.
func (l *ledger) truths() iter.Seq[truth] {
	return func(yield func(truth) bool) {
		var t truth
		var settle func(n int) bool
		settle = func(n int) bool {
			if n == len(l.places) {
				return yield(t)
			}
			p := l.places[n]
		ways:
			for _, there := range [...]bool{false, true} {
				t[p.shift][p.man] = there
				for _, x := range l.due[n] {
					if !x.one.so(t) && !x.other.so(t) {
						continue ways
					}
				}
				if !settle(n + 1) {
					return false
				}
			}
			return true
		}
		settle(0)
	}
}

// may reports whether there is a truth in which all of some things are so.
func (l *ledger) may(things ...api.Thing) bool {
	_, is := first(l.truths(), func(t truth) bool {
		return !slices.ContainsFunc(things, func(x api.Thing) bool { return !l.side(x).so(t) })
	})
	return is
}

// known reports whether a thing is so, if there is a truth.
func (l *ledger) known(x api.Thing) uint8 {
	if !l.may(x) {
		return api.KnownNo
	}
	if !l.may(contrary(x)) {
		return api.KnownYes
	}
	return api.KnownOpen
}

// names returns of each shift the men who were there.
func (l *ledger) names(t truth) [][]int {
	there := make([][]int, len(l.Shifts))
	for _, p := range l.places {
		if t.at(p) {
			there[p.shift] = append(there[p.shift], l.Men[p.man])
		}
	}
	return there
}

// tally is how many truths there are, and in how many of them each man was there at each shift.
type tally struct {
	all   int
	there [api.MaxShifts][api.MaxMen]int
}

func (l *ledger) tally() tally {
	var n tally
	for t := range l.truths() {
		n.all++
		for _, p := range l.places {
			if t.at(p) {
				n.there[p.shift][p.man]++
			}
		}
	}
	return n
}

// left returns how many truths are left at worst, if it is asked whether a man was there.
func (n tally) left(p place) int {
	there := n.there[p.shift][p.man]
	return max(there, n.all-there)
}
