package sample_test

import (
	"math/big"
	"math/bits"

	"oilcake/api"
)

func part(num, den int) api.Part { return api.Part{Num: num, Den: den} }

func span(lo, hi int) api.Span { return api.Span{Lo: lo, Hi: hi} }

func draw(opened, found int) api.Draw { return api.Draw{Opened: opened, Found: found} }

func rule(open, accept int) api.Rule { return api.Rule{Open: open, Accept: accept} }

func double(first, accept, refuse, second, total int) api.Double {
	return api.Double{First: first, Accept: accept, Refuse: refuse, Second: second, Total: total}
}

// bags is a cargo of so many bags, any of which may be dirty; some one of which so many may be.
func bags(n int) api.Cargo { return some(n, 0, n) }

func some(n, lo, hi int) api.Cargo { return api.Cargo{Bags: n, Dirty: span(lo, hi)} }

// terms are pairs of From and Pence.
func terms(l ...int) []api.Term {
	var out []api.Term
	for i := 0; i < len(l); i += 2 {
		out = append(out, api.Term{From: l[i], Pence: l[i+1]})
	}
	return out
}

// lowest is a fraction in lowest terms, worked out in another way than the program's.
func lowest(num, den int) api.Part {
	r := big.NewRat(int64(num), int64(den))
	return part(int(r.Num().Int64()), int(r.Denom().Int64()))
}

func rat(p api.Part) *big.Rat { return big.NewRat(int64(p.Num), int64(p.Den)) }

// sets are all sets of k of n bags, as bits.
func sets(n, k int) []int {
	var l []int
	for m := range 1 << n {
		if bits.OnesCount(uint(m)) == k {
			l = append(l, m)
		}
	}
	return l
}

// dirtyIn is how many bags of a set are dirty if the first ones of the cargo are.
func dirtyIn(set, dirty int) int { return bits.OnesCount(uint(set & (1<<dirty - 1))) }

// middle is what the sets of some bags are worth in the middle, set by set.
func middle(n, dirty, opened int, worth func(found int) int) api.Part {
	all := sets(n, opened)
	sum := 0
	for _, s := range all {
		sum += worth(dirtyIn(s, dirty))
	}
	return lowest(sum, len(all))
}

func oneIf(is bool) int {
	if is {
		return 1
	}
	return 0
}

// binomial is how many sets of k of n things there are.
func binomial(n, k int) int {
	if k < 0 || n < 0 || k > n {
		return 0
	}
	return int(new(big.Int).Binomial(int64(n), int64(k)).Int64())
}

// chance is the chance of a draw, by the formula.
func chance(n, dirty int, d api.Draw) *big.Rat {
	ways := binomial(dirty, d.Found) * binomial(n-dirty, d.Opened-d.Found)
	return big.NewRat(int64(ways), int64(binomial(n, d.Opened)))
}

// chances are some that are valid, not all of them in lowest terms.
func chances() []api.Part {
	return []api.Part{part(0, 1), part(0, 1000), part(1, 1000), part(1, 20), part(2, 20), part(1, 6), part(2, 7), part(1, 3), part(500, 1000), part(2, 3), part(9, 10), part(999, 1000), part(7, 7), part(1, 1)}
}

// holds calls back with all cargoes of at most so many bags.
func holds(most int, f func(c api.Cargo)) {
	for n := 1; n <= most; n++ {
		for lo := range n + 1 {
			for hi := lo; hi <= n; hi++ {
				f(some(n, lo, hi))
			}
		}
	}
}

// draws calls back with all draws of at most so many bags.
func draws(n int, f func(d api.Draw)) {
	for opened := range n + 1 {
		for found := range opened + 1 {
			f(draw(opened, found))
		}
	}
}
