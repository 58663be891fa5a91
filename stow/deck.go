package stow

import (
	"iter"
	"slices"

	"oilcake/api"
)

// way is the Ids of the holds in which all lots lie.
type way [api.MaxStowed]int

// deck is a ship at work, with all its ways in order.
type deck struct {
	api.Ship
	ways []way
}

// work returns a ship at work, an empty one with an error.
func work(s api.Ship) (*deck, api.Errno) {
	if e := Check(s); e != api.OK {
		return &deck{}, e
	}
	d := &deck{Ship: s}
	for w := range d.fitting() {
		if len(d.untrue(w)) == 0 {
			d.ways = append(d.ways, w)
		}
	}
	return d, api.OK
}

// choices yields the holds of all lots in order, whatever is chosen for each.
func (d *deck) choices() iter.Seq[way] {
	return func(yield func(way) bool) {
		var w way
		var choose func(lot int) bool
		choose = func(lot int) bool {
			if lot == len(d.Lots) {
				return yield(w)
			}
			for _, h := range d.Holds {
				w[lot] = h.Id
				if !choose(lot + 1) {
					return false
				}
			}
			return true
		}
		choose(0)
	}
}

// fitting yields what the holds have room for, whether probes are true or not.
func (d *deck) fitting() iter.Seq[way] {
	return func(yield func(way) bool) {
	next:
		for w := range d.choices() {
			for _, h := range d.Holds {
				if d.draw(w, h.Id).Opened > h.Room {
					continue next
				}
			}
			if !yield(w) {
				return
			}
		}
	}
}

// untrue returns the probes that are not true if lots lie so.
func (d *deck) untrue(w way) []int {
	var l []int
	for _, x := range d.Probes {
		if d.at(w, api.Place{Hold: x.Hold, Depth: x.Depth}).Mark != x.Mark {
			l = append(l, x.Number)
		}
	}
	return l
}

// at returns the lot of which a bag lies at a place; if nothing does one whose Id and Mark are 0, as those of no lot are.
func (d *deck) at(w way, p api.Place) api.Lot {
	depth := p.Depth
	for i, x := range slices.Backward(d.Lots) {
		if w[i] != p.Hold {
			continue
		}
		if depth < x.Bags {
			return x
		}
		depth -= x.Bags
	}
	return api.Lot{}
}

// lot returns which lot has an Id; below 0 if there is none.
func (d *deck) lot(id int) int {
	return slices.IndexFunc(d.Lots, func(x api.Lot) bool { return x.Id == id })
}

func (d *deck) checkPlace(p api.Place) api.Errno {
	_, is := first(d.places(), func(q api.Place) bool { return q == p })
	return unless(is, api.ErrPlace)
}

func (d *deck) checkWays() api.Errno { return unless(len(d.ways) > 0, api.ErrBad) }

// some returns all numbers that are told of some way, in increasing order.
func (d *deck) some(tell func(way) int) []int {
	return slices.Compact(slices.Sorted(told(slices.Values(d.ways), tell)))
}
