package stow

import (
	"iter"
	"slices"

	"oilcake/api"
	"oilcake/sample"
)

// draw returns the draw of all bags of a hold, of which all dirty ones are found.
func (d *deck) draw(w way, hold int) api.Draw {
	var all api.Draw
	for i, x := range d.Lots {
		if w[i] == hold {
			all.Opened += x.Bags
			all.Found += x.Dirty
		}
	}
	return all
}

// draws yields the draws of a hold in all ways, each of them once.
func (d *deck) draws(hold int) iter.Seq[api.Draw] {
	return func(yield func(api.Draw) bool) {
		seen := map[api.Draw]bool{}
		for _, w := range d.ways {
			x := d.draw(w, hold)
			if seen[x] {
				continue
			}
			seen[x] = true
			if !yield(x) {
				return
			}
		}
	}
}

// span returns the least and the greatest number that is told of a hold in any way.
func (d *deck) span(hold int, tell func(api.Draw) int) api.Span {
	l := slices.Collect(told(d.draws(hold), tell))
	return api.Span{Lo: slices.Min(l), Hi: slices.Max(l)}
}

// clean reports whether a hold is within the limit.
func (d *deck) clean(x api.Draw) bool { return x.Found*100 <= d.Limit*x.Opened }

// verdict returns the verdict of a hold.
func (d *deck) verdict(hold int) uint8 {
	_, yes := first(d.draws(hold), d.clean)
	_, no := first(d.draws(hold), func(x api.Draw) bool { return !d.clean(x) })
	switch {
	case yes && no:
		return api.KnownOpen
	case yes:
		return api.KnownYes
	}
	return api.KnownNo
}

// find returns the fewest bags of a hold that find a dirty one in each way that has one there, and whether there is such a way.
func (d *deck) find(hold int, p api.Part) (fewest int, some bool) {
	for x := range d.draws(hold) {
		if x.Found > 0 {
			n, _ := sample.Find(cargo(x), x.Found, p)
			fewest, some = max(fewest, n), true
		}
	}
	return fewest, some
}

// cargo returns the cargo of all bags of a draw, just so many of which are dirty.
func cargo(x api.Draw) api.Cargo {
	return api.Cargo{Bags: x.Opened, Dirty: api.Span{Lo: x.Found, Hi: x.Found}}
}

// off returns what valid terms take off for a draw.
func off(l []api.Term, x api.Draw) int {
	pence, _ := sample.Off(l, x)
	return pence
}

// checkTerms and checkChance leave it to layer 1 what is valid. They ask it with a draw that has no error of its own.
func checkTerms(l []api.Term) api.Errno {
	_, e := sample.Off(l, api.Draw{})
	return e
}

func checkChance(p api.Part) api.Errno {
	x := api.Draw{Opened: 1, Found: 1}
	_, e := sample.Find(cargo(x), x.Found, p)
	return e
}
