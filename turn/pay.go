package turn

import (
	"iter"
	"slices"

	"oilcake/api"
)

// present returns who was there by lists of men, one for each shift.
func (l *ledger) present(there [][]int) (truth, api.Errno) {
	var t truth
	if len(there) != len(l.Shifts) {
		return truth{}, api.ErrThere
	}
	for shift, men := range there {
		if !inOrder(men, func(x, y int) bool { return x < y }) {
			return truth{}, api.ErrThere
		}
		for _, man := range men {
			i := slices.Index(l.Men, man)
			if i < 0 {
				return truth{}, api.ErrThere
			}
			t[shift][i] = true
		}
	}
	return t, api.OK
}

// wages is what each man gets, by the men's places.
type wages [api.MaxMen]int

// share returns what each man of a crew gets of some pence. Each one in turn gets his part of what is left, rounded up: so the pence that are left over go to those who come first, who have the least Ids.
func share(pence int, c crew) wages {
	men := 0
	for _, there := range c {
		if there {
			men++
		}
	}
	var w wages
	for man, there := range c {
		if there {
			w[man] = (pence + men - 1) / men
			pence -= w[man]
			men--
		}
	}
	return w
}

// paid returns what each man gets for all shifts.
func (l *ledger) paid(t truth) wages {
	var all wages
	for shift := range len(l.Shifts) {
		for man, pence := range share(l.Shifts[shift].Pence, t[shift]) {
			all[man] += pence
		}
	}
	return all
}

// whole returns what all men get together: a shift at which nobody was is not paid.
func (l *ledger) whole(t truth) int {
	pence := 0
	for shift := range len(l.Shifts) {
		if t[shift] != (crew{}) {
			pence += l.Shifts[shift].Pence
		}
	}
	return pence
}

// spread returns the least and the greatest of several numbers.
func spread(all iter.Seq[int]) api.Span {
	var s api.Span
	some := false
	for n := range all {
		if !some {
			s, some = api.Span{Lo: n, Hi: n}, true
		}
		s = api.Span{Lo: min(s.Lo, n), Hi: max(s.Hi, n)}
	}
	return s
}

// part returns a fraction in lowest terms; den is above 0.
func part(num, den int) api.Part {
	a, b := den, num
	for b > 0 {
		a, b = b, a%b
	}
	return api.Part{Num: num / a, Den: den / a}
}
