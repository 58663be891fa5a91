package plan

import (
	"iter"

	"oilcake/api"
)

// point is what is left ahead of a turn, counted from 0 on, and whether a sale is late.
type point struct {
	turn   int
	isLate bool
	api.Left
}

// key is all that matters of a point from which sales can still be filled; the day goes by the turn.
func (x point) key() [6]int { return [6]int{x.turn, x.Seed, x.Cakes, x.Cold, x.Hot, x.Bursts} }

// oil returns how much of a sort was pressed.
func oil(s api.Left, sort int) int {
	if sort == api.SortCold {
		return s.Cold
	}
	return s.Hot
}

// take returns what is left when something is taken to be pressed. If nothing is needed, or it is not there, this is the same as before.
func take(s api.Left, sort int) api.Left {
	switch {
	case sort == api.SortCold && s.Seed > 0:
		s.Seed--
	case sort == api.SortHot && s.Cakes > 0:
		s.Cakes--
	}
	return s
}

// give returns what is left when what was taken gave its oil.
func give(s api.Left, sort int) api.Left {
	switch sort {
	case api.SortCold:
		s.Cold++
		s.Cakes++
	case api.SortHot:
		s.Hot++
	}
	return s
}

// can reports whether a sort can be pressed, and canBurst whether it can burst then.
func can(s api.Left, sort int) bool { return sort == api.SortNone || take(s, sort) != s }

func canBurst(s api.Left, sort int) bool { return s.Bursts > 0 && take(s, sort) != s }

// sorts yields all sorts that can be pressed, in the order in which one is chosen.
func sorts(s api.Left) iter.Seq[int] {
	return func(yield func(int) bool) {
		for _, sort := range [...]int{api.SortCold, api.SortHot, api.SortNone} {
			if can(s, sort) && !yield(sort) {
				return
			}
		}
	}
}
