package wheel

import (
	"cmp"

	"oilcake/api"
)

func gcd(a, b int) int {
	for b != 0 {
		a, b = b, a%b
	}
	return a
}

func lcm(a, b int) int { return a / gcd(a, b) * b }

// lowest returns a fraction in lowest terms.
func lowest(num, den int) api.Part {
	g := gcd(num, den)
	return api.Part{Num: num / g, Den: den / g}
}

// apart returns how far a fraction is from another one.
func apart(x, y api.Part) api.Part {
	off := x.Num*y.Den - y.Num*x.Den
	return lowest(max(off, -off), x.Den*y.Den)
}

// compare orders fractions. Of a ratio and a wish no part is above 120^3, nor of how far they are apart above 1000 times as much: two of these can be multiplied.
func compare(x, y api.Part) int { return cmp.Compare(x.Num*y.Den, y.Num*x.Den) }
