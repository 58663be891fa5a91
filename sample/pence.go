package sample

import "oilcake/api"

// off returns what terms take off for a draw.
func off(l []api.Term, d api.Draw) int {
	if d == (api.Draw{}) { // nothing was opened: no share of it was found
		return 0
	}
	pence := 0
	for _, t := range l {
		if t.From*d.Opened <= d.Found*100 {
			pence = t.Pence
		}
	}
	return pence
}

// near reports whether two numbers differ by at most a tenth of the greater one.
func near(a, b int) bool {
	most := max(a, b)
	return (most-min(a, b))*10 <= most
}

// middle returns the one of three numbers that is neither below nor above both others.
func middle(a, b, c int) int { return max(min(a, b), min(max(a, b), c)) }
