package round

import (
	"iter"

	"oilcake/api"
)

// waited is how many days each rick has waited, turning which ricks are turned on a day: both by their places in the list. What is behind the last rick is never set, so that equal ones are the same.
type (
	waited  [api.MaxRicks]int
	turning [api.MaxRicks]bool
)

// way is a day's turning, and what the ricks have waited at the end of the day.
type way struct {
	turning
	end waited
}

// day is a watch at work, with all turnings that a day can have, in their order.
type day struct {
	api.Watch
	turnings []turning
}

// work returns a valid watch at work.
func work(w api.Watch) *day {
	d := &day{Watch: w}
	var t turning
	var choose func(from, more int)
	choose = func(from, more int) {
		if more == 0 {
			d.turnings = append(d.turnings, t)
			return
		}
		for i := from; i < len(d.Ricks); i++ {
			t[i] = true
			choose(i+1, more-1)
			t[i] = false
		}
	}
	for n := range d.Hands + 1 {
		choose(0, n)
	}
	return d
}

// now returns what the ricks have waited.
func (d *day) now() waited {
	var s waited
	for i, x := range d.Ricks {
		s[i] = x.Waited
	}
	return s
}

// turned returns what the ricks have waited at the end of a day.
func (d *day) turned(s waited, t turning) waited {
	for i := range d.Ricks {
		s[i]++
		if t[i] {
			s[i] = 0
		}
	}
	return s
}

// heats reports whether a rick becomes hot at the end of a day.
func (d *day) heats(rick int, end waited) bool { return end[rick] == d.Ricks[rick].Every }

// ways yields the turnings with which no rick becomes hot today, in their order.
func (d *day) ways(s waited) iter.Seq[way] {
	return func(yield func(way) bool) {
	next:
		for _, t := range d.turnings {
			end := d.turned(s, t)
			for i := range d.Ricks {
				if d.heats(i, end) {
					continue next
				}
			}
			if !yield(way{t, end}) {
				return
			}
		}
	}
}

// all yields what the ricks can have waited with none of them hot.
func (d *day) all() iter.Seq[waited] {
	return func(yield func(waited) bool) {
		var s waited
		var wait func(rick int) bool
		wait = func(rick int) bool {
			if rick == len(d.Ricks) {
				return yield(s)
			}
			for n := range d.Ricks[rick].Every {
				s[rick] = n
				if !wait(rick + 1) {
					return false
				}
			}
			return true
		}
		wait(0)
	}
}

// ids returns the Ids of the ricks that are turned.
func (d *day) ids(t turning) []int {
	var l []int
	for i, x := range d.Ricks {
		if t[i] {
			l = append(l, x.Id)
		}
	}
	return l
}

// lists returns the Ids of the ricks that are turned on some days.
func (d *day) lists(days []turning) [][]int {
	var l [][]int
	for _, t := range days {
		l = append(l, d.ids(t))
	}
	return l
}
