package sample

import "oilcake/api"

// part returns a fraction in lowest terms, den above 0.
func part(num, den int) api.Part {
	d := divisor(num, den)
	return api.Part{Num: num / d, Den: den / d}
}

// divisor returns the greatest number that divides both, the second one above 0.
func divisor(a, b int) int {
	for a != 0 {
		a, b = b%a, a
	}
	return b
}

// reaches reports whether p is at least q. The products do not overflow, for one of both is always given, so that its Den is at most MaxDen.
func reaches(p, q api.Part) bool { return p.Num*q.Den >= q.Num*p.Den }

// not returns the chance that something that has a chance does not happen.
func not(p api.Part) api.Part { return api.Part{Num: p.Den - p.Num, Den: p.Den} }
