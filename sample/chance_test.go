package sample_test

import (
	"math/big"
	"testing"

	"oilcake/api"
	"oilcake/sample"
)

// TestWays checks P1.2: the numbers of sets, to the greatest ones.
func TestWays(t *testing.T) {
	for n := -2; n <= 39; n++ {
		for k := -2; k <= 39; k++ {
			want, e := 0, api.ErrArg
			if n >= 0 && n <= 36 && k >= 0 && k <= n {
				want, e = binomial(n, k), api.OK
			}
			if w, f := sample.Ways(n, k); w != want || f != e {
				t.Error(n, k, w, f)
			}
		}
	}
}

// TestChanceSets checks P1.2 and the lowest terms of P1.1: chances and the middle, set by set.
func TestChanceSets(t *testing.T) {
	for n := 1; n <= 7; n++ {
		for dirty := range n + 1 {
			draws(n, func(d api.Draw) {
				p, e := sample.Chance(bags(n), dirty, d)
				want := middle(n, dirty, d.Opened, func(found int) int { return oneIf(found == d.Found) })
				if p != want || e != api.OK {
					t.Error("Chance", n, dirty, d, p, e, want)
				}
				p, e = sample.AtMost(some(n, dirty, dirty), dirty, d)
				want = middle(n, dirty, d.Opened, func(found int) int { return oneIf(found <= d.Found) })
				if p != want || e != api.OK {
					t.Error("AtMost", n, dirty, d, p, e, want)
				}
				p, e = sample.Mean(bags(n), dirty, d.Opened)
				want = middle(n, dirty, d.Opened, func(found int) int { return found })
				if p != want || e != api.OK {
					t.Error("Mean", n, dirty, d, p, e, want)
				}
			})
		}
	}
}

// TestChanceExamples checks P1.2 by the examples.
func TestChanceExamples(t *testing.T) {
	c := bags(10)
	if p, e := sample.Chance(c, 4, draw(3, 1)); p != part(1, 2) || e != api.OK {
		t.Error(p, e)
	}
	if p, e := sample.AtMost(c, 4, draw(3, 1)); p != part(2, 3) || e != api.OK {
		t.Error(p, e)
	}
	if p, e := sample.Mean(c, 4, 3); p != part(6, 5) || e != api.OK {
		t.Error(p, e)
	}
	if n, e := sample.Ways(10, 3); n != 120 || e != api.OK {
		t.Error(n, e)
	}
}

// TestTogether checks P1.8: all that can be found has the chance 1, the middle of it is the share of the dirty bags; AtMost adds these chances up.
func TestTogether(t *testing.T) {
	for _, n := range []int{1, 2, 9, 20, 35, 36} {
		for dirty := range n + 1 {
			for opened := 0; opened <= n; opened += 1 + n/12 {
				sum, mean := new(big.Rat), new(big.Rat)
				for found := range opened + 1 {
					p, e := sample.Chance(bags(n), dirty, draw(opened, found))
					if want := chance(n, dirty, draw(opened, found)); e != api.OK || rat(p).Cmp(want) != 0 {
						t.Fatal(n, dirty, opened, found, p, e)
					}
					sum.Add(sum, rat(p))
					mean.Add(mean, new(big.Rat).Mul(rat(p), big.NewRat(int64(found), 1)))
					most, e := sample.AtMost(bags(n), dirty, draw(opened, found))
					if e != api.OK || rat(most).Cmp(sum) != 0 || most != lowest(most.Num, most.Den) {
						t.Fatal(n, dirty, opened, found, most, e)
					}
				}
				m, e := sample.Mean(bags(n), dirty, opened)
				if e != api.OK || sum.Cmp(big.NewRat(1, 1)) != 0 || rat(m).Cmp(mean) != 0 || m != lowest(opened*dirty, n) {
					t.Error(n, dirty, opened, sum, m, e)
				}
			}
		}
	}
}

// TestExchanged checks P1.9: what is drawn and what is dirty may be exchanged.
func TestExchanged(t *testing.T) {
	for _, n := range []int{5, 18, 36} {
		for a := range n + 1 {
			for b := 0; b <= a; b += 1 + n/12 {
				for found := range b + 1 {
					p, e := sample.Chance(bags(n), b, draw(a, found))
					q, f := sample.Chance(bags(n), a, draw(b, found))
					if p != q || e != api.OK || f != api.OK {
						t.Error(n, a, b, found, p, q, e, f)
					}
				}
			}
		}
	}
}

// TestFalls checks P1.11: with more dirty bags the chance to find few is less, with more opened ones that to find one greater.
func TestFalls(t *testing.T) {
	for _, n := range []int{6, 17, 36} {
		draws(n, func(d api.Draw) {
			if n == 36 && d.Opened%5 != 0 {
				return
			}
			before := big.NewRat(1, 1)
			for dirty := range n + 1 {
				p, e := sample.AtMost(bags(n), dirty, d)
				if e != api.OK || rat(p).Cmp(before) > 0 {
					t.Fatal(n, dirty, d, p, e)
				}
				before = rat(p)
			}
		})
		for dirty := range n + 1 {
			before := big.NewRat(1, 1) // the chance to find none
			for opened := range n + 1 {
				p, e := sample.AtMost(bags(n), dirty, draw(opened, 0))
				if e != api.OK || rat(p).Cmp(before) > 0 || dirty > 0 && before.Sign() > 0 && opened > 0 && rat(p).Cmp(before) == 0 {
					t.Fatal(n, dirty, opened, p, e)
				}
				before = rat(p)
			}
		}
	}
}

// TestParts checks P1.14: a draw in two parts, the second one of the rest of the cargo, is a draw.
func TestParts(t *testing.T) {
	const n = 11
	for dirty := range n + 1 {
		for first := range n {
			for second := range n - first + 1 {
				for found := range first + second + 1 {
					sum := new(big.Rat)
					for at := range min(first, found) + 1 {
						p, _ := sample.Chance(bags(n), dirty, draw(first, at))
						rest, e := sample.Rest(some(n, dirty, dirty), draw(first, at))
						if e == api.ErrBad && p.Num == 0 || found-at > second {
							continue
						}
						q, f := sample.Chance(rest, dirty-at, draw(second, found-at))
						if e != api.OK || f != api.OK {
							t.Fatal(dirty, first, second, found, at, e, f)
						}
						sum.Add(sum, new(big.Rat).Mul(rat(p), rat(q)))
					}
					if p, e := sample.Chance(bags(n), dirty, draw(first+second, found)); e != api.OK || rat(p).Cmp(sum) != 0 {
						t.Error(dirty, first, second, found, p, sum)
					}
				}
			}
		}
	}
}
