package wheel

import "iter"

// mesh is the numbers of two teeth that meet, one of each of two wheels.
type mesh [2]int

// meetings yields all teeth of two wheels that meet, tooth by tooth, until the first two meet again.
func meetings(one, other int) iter.Seq[mesh] {
	return func(yield func(mesh) bool) {
		var start mesh
		for at, again := start, false; !again; again = at == start {
			if !yield(at) {
				return
			}
			at = mesh{(at[0] + 1) % one, (at[1] + 1) % other}
		}
	}
}
