package wheel

import (
	"cmp"
	"iter"
	"slices"

	"oilcake/api"
)

// axle is a shaft at work.
type axle struct{ api.Shaft }

// gap returns how many marks there are from each cam of a stamper to its next one.
func (a axle) gap(i int) int { return a.Marks / a.Stampers[i].Cams }

// lifted reports whether a stamper is up at a mark, if the mark of its first cam is a number.
func (a axle) lifted(i, number, mark int) bool {
	return rest(mark-number, a.gap(i)) < a.Stampers[i].Up
}

// rest returns the remainder of a number, as if numbers went on below 0 as they do above it.
func rest(n, by int) int { return (n%by + by) % by }

// sums returns for each mark what all stampers that are up at it count together.
func (a axle) sums(set []int, count func(x api.Stamper) int) []int {
	l := make([]int, a.Marks)
	for mark := range a.Marks {
		for i, number := range set {
			if a.lifted(i, number, mark) {
				l[mark] += count(a.Stampers[i])
			}
		}
	}
	return l
}

func (a axle) loads(set []int) []int {
	return a.sums(set, func(x api.Stamper) int { return x.Pounds })
}

// load returns the greatest load of a setting.
func (a axle) load(set []int) int { return slices.Max(a.loads(set)) }

// crowd returns how many stampers are up at once, at most.
func (a axle) crowd(set []int) int {
	return slices.Max(a.sums(set, func(api.Stamper) int { return 1 }))
}

// settings yields all settings, in order.
func (a axle) settings() iter.Seq[[]int] {
	return func(yield func([]int) bool) {
		set := make([]int, len(a.Stampers))
		var choose func(i int) bool
		choose = func(i int) bool {
			if i == len(set) {
				return yield(slices.Clone(set))
			}
			for n := range a.gap(i) {
				set[i] = n
				if !choose(i + 1) {
					return false
				}
			}
			return true
		}
		choose(0)
	}
}

// lift is a setting with what is up at once, at most.
type lift struct {
	set  []int
	peak int
}

// least returns the first of the settings of which the least is told.
func (a axle) least(tell func(set []int) int) lift {
	lifts := told(a.settings(), func(set []int) lift { return lift{set, tell(set)} })
	best, _ := foremost(lifts, func(x, y lift) int { return cmp.Compare(x.peak, y.peak) })
	return best
}

// bound returns what the marks would bear if all bore as much, rounded up: a stamper is up at as many marks whatever its number.
func (a axle) bound() int {
	all := 0
	for _, x := range a.Stampers {
		all += x.Cams * x.Up * x.Pounds
	}
	return (all + a.Marks - 1) / a.Marks
}

// turned returns a setting that is turned on by some marks.
func (a axle) turned(set []int, by int) []int {
	var l []int
	for i, n := range set {
		l = append(l, rest(n+by, a.gap(i)))
	}
	return l
}
