package stow

import (
	"cmp"
	"slices"
)

// wrong returns the fewest probes without which there is a way, the first list of several, and whether there is one. Each choice that the holds have room for is a way without the probes that are not true in it, so no other lists need be tried.
func (d *deck) wrong() ([]int, bool) {
	return foremost(told(d.fitting(), d.untrue), func(x, y []int) int {
		return cmp.Or(cmp.Compare(len(x), len(y)), slices.Compare(x, y))
	})
}
