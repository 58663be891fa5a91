package round

import (
	"slices"

	"oilcake/api"
)

// course is a day at work that knows from what the ricks can go on for ever.
type course struct {
	*day
	ever map[waited]bool
}

// foresee returns a valid watch at work that knows how it can go on.
func foresee(w api.Watch) course {
	c := course{day: work(w), ever: map[waited]bool{}}
	for s := range c.all() {
		c.ever[s] = true
	}
	c.sift()
	return c
}

// sift takes out what leads to nothing that is left, until there is no more of this: what is left then has always a next day.
func (c course) sift() {
	over := map[waited]bool{}
	for {
		for s := range c.ever {
			if _, on := c.today(s); !on {
				over[s] = true
			}
		}
		if len(over) == 0 {
			return
		}
		for s := range over {
			delete(c.ever, s)
		}
		clear(over)
	}
}

// can reports whether it can go on for ever.
func (c course) can() bool { return c.ever[c.now()] }

// today returns the first way from which it can go on for ever, and whether there is one.
func (c course) today(s waited) (way, bool) {
	return first(c.ways(s), func(x way) bool { return c.ever[x.end] })
}

// days returns the first days of the plan of a watch that can go on.
func (c course) days(n int) []turning {
	var l []turning
	s := c.now()
	for range n {
		x, _ := c.today(s)
		l, s = append(l, x.turning), x.end
	}
	return l
}

// round returns the lead and the round of a watch that can go on.
func (c course) round() (lead, round []turning) {
	var l []turning
	var before []waited
	s := c.now()
	for !slices.Contains(before, s) {
		x, _ := c.today(s)
		l, before, s = append(l, x.turning), append(before, s), x.end
	}
	start := slices.Index(before, s)
	return l[:start], l[start:]
}

// last returns the first of the longest lists of days of a watch that cannot go on.
func (c course) last() []turning {
	var l []turning
	left := c.lasts()
	s := c.now()
	for range left(s) {
		x, _ := first(c.ways(s), func(x way) bool { return left(x.end) == left(s)-1 })
		l, s = append(l, x.turning), x.end
	}
	return l
}

// lasts returns what tells for how many days it can be kept up. It keeps what it told, for many days lead to the same; and it ends, because what the ricks have waited never returns where it cannot go on for ever.
func (d *day) lasts() func(waited) int {
	told := map[waited]int{}
	var left func(s waited) int
	left = func(s waited) int {
		n, known := told[s]
		if !known {
			for x := range d.ways(s) {
				n = max(n, left(x.end)+1)
			}
			told[s] = n
		}
		return n
	}
	return left
}

// spare returns on how many days nothing need be turned; there have to be ricks, and it has to go on for ever.
func (c course) spare() int {
	n := 0
	for s := c.turned(c.now(), turning{}); c.ever[s]; s = c.turned(s, turning{}) {
		n++
	}
	return n
}
