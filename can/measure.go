package can

import (
	"slices"

	"oilcake/api"
)

func sum(l []int) int {
	all := 0
	for _, n := range l {
		all += n
	}
	return all
}

// measure returns the greatest number that divides all sizes of valid cans, and all that is in them.
func measure(c api.Cans) int {
	d := 0
	for _, n := range slices.Concat(c.Sizes, c.In) {
		d = divisor(d, n)
	}
	return d
}

// divisor returns the greatest number that divides both; 0 is divided by all.
func divisor(a, b int) int {
	for b > 0 {
		a, b = b, a%b
	}
	return a
}
