package sample_test

import (
	"math/big"
	"math/bits"
	"slices"
	"testing"

	"oilcake/api"
	"oilcake/sample"
)

// TestAccepts checks P1.5: Accepts and Curve, set by set.
func TestAccepts(t *testing.T) {
	holds(6, func(c api.Cargo) {
		draws(c.Bags, func(d api.Draw) {
			r := rule(d.Opened, d.Found)
			var want []api.Part
			for dirty := c.Dirty.Lo; dirty <= c.Dirty.Hi; dirty++ {
				p, e := sample.Accepts(c, r, dirty)
				want = append(want, middle(c.Bags, dirty, r.Open, func(found int) int { return oneIf(found <= r.Accept) }))
				if p != want[len(want)-1] || e != api.OK {
					t.Error(c, r, dirty, p, e)
				}
			}
			if l, e := sample.Curve(c, r); !slices.Equal(l, want) || e != api.OK {
				t.Error(c, r, l, e)
			}
		})
	})
	if l, e := sample.Curve(some(10, 0, 3), rule(3, 0)); !slices.Equal(l, []api.Part{part(1, 1), part(7, 10), part(7, 15), part(7, 24)}) || e != api.OK {
		t.Error(l, e)
	}
	l, e := sample.Curve(bags(36), rule(18, 9))
	if len(l) != 37 || e != api.OK {
		t.Error(l, e)
	}
	for dirty, p := range l {
		if rat(p).Cmp(acceptance(36, rule(18, 9), dirty)) != 0 {
			t.Error(dirty, p)
		}
	}
}

// acceptance is the chance that a rule accepts a cargo, by the formula.
func acceptance(n int, r api.Rule, dirty int) *big.Rat {
	sum := new(big.Rat)
	for found := range r.Accept + 1 {
		sum.Add(sum, chance(n, dirty, draw(r.Open, found)))
	}
	return sum
}

// isGood is whether a rule is good, by the formula.
func isGood(n int, r api.Rule, good, bad int, seller, buyer api.Part) bool {
	not := new(big.Rat).Sub(big.NewRat(1, 1), acceptance(n, r, good))
	return not.Cmp(rat(seller)) <= 0 && acceptance(n, r, bad).Cmp(rat(buyer)) <= 0
}

// TestGood checks P1.5 and P1.13: Good, and that Least tells the first rule that is good.
func TestGood(t *testing.T) {
	risks := []api.Part{part(0, 7), part(1, 20), part(1, 6), part(2, 6), part(1, 2), part(9, 10), part(3, 3)}
	for _, n := range []int{1, 2, 5} {
		for good := range n {
			for bad := good + 1; bad <= n; bad++ {
				for _, seller := range risks {
					for _, buyer := range risks {
						checkGood(t, n, good, bad, seller, buyer)
					}
				}
			}
		}
	}
}

func checkGood(t *testing.T, n, good, bad int, seller, buyer api.Part) {
	c := some(n, good, bad)
	var want api.Rule
	some := false
	draws(n, func(d api.Draw) {
		r := rule(d.Opened, d.Found)
		is := isGood(n, r, good, bad, seller, buyer)
		if is && !some {
			want, some = r, true
		}
		if got, e := sample.Good(c, r, good, bad, seller, buyer); got != is || e != api.OK {
			t.Error("Good", n, r, good, bad, seller, buyer, got, e)
		}
	})
	if r, e := sample.Least(c, good, bad, seller, buyer); !some || r != want || e != api.OK {
		t.Error("Least", n, good, bad, seller, buyer, r, want, e)
	}
	if is, e := sample.Good(c, rule(n, good), good, bad, part(0, 1), part(0, 1)); !is || e != api.OK { // P1.13: all bags, for any risks
		t.Error(n, good, bad, is, e)
	}
}

// TestLeast checks P1.5 and P1.13 by the examples and by the greatest cargo.
func TestLeast(t *testing.T) {
	for i, x := range []struct {
		n, good, bad  int
		seller, buyer api.Part
		want          api.Rule
	}{
		{10, 1, 5, part(3, 10), part(1, 10), rule(3, 0)}, {10, 1, 5, part(300, 1000), part(1, 12), rule(3, 0)},
		{36, 17, 18, part(0, 1), part(0, 1), rule(36, 17)}, {36, 0, 36, part(0, 1), part(0, 1), rule(1, 0)}, {36, 0, 1, part(1, 1), part(1, 1), rule(0, 0)},
	} {
		if r, e := sample.Least(bags(x.n), x.good, x.bad, x.seller, x.buyer); r != x.want || e != api.OK {
			t.Error(i, r, e)
		}
	}
	seller, buyer := part(1, 20), part(1, 10)
	r, e := sample.Least(bags(36), 2, 12, seller, buyer)
	if e != api.OK || !isGood(36, r, 2, 12, seller, buyer) {
		t.Error(r, e)
	}
	draws(36, func(d api.Draw) {
		if (d.Opened < r.Open || d.Opened == r.Open && d.Found < r.Accept) && isGood(36, rule(d.Opened, d.Found), 2, 12, seller, buyer) {
			t.Error(r, d)
		}
	})
	if is, e := sample.Good(bags(10), rule(3, 0), 1, 5, part(3, 10), part(1, 10)); !is || e != api.OK {
		t.Error(is, e)
	}
}

// doubles calls back with all double rules of a cargo of n bags.
func doubles(n int, f func(x api.Double)) {
	for first := range n + 1 {
		for second := range n - first + 1 {
			for accept := range first + 1 {
				for refuse := accept + 1; refuse <= first+1; refuse++ {
					for total := accept; total <= refuse+second; total++ {
						f(double(first, accept, refuse, second, total))
					}
				}
			}
		}
	}
}

// twiceBySets opens all sets, and behind each one that does not decide all sets of the rest.
func twiceBySets(n, dirty int, x api.Double) (accepts, opens api.Part) {
	firsts := sets(n, x.First)
	accepted, pairs, opened := 0, 0, 0
	for _, a := range firsts {
		found := dirtyIn(a, dirty)
		again := found > x.Accept && found < x.Refuse
		opened += x.First
		if again {
			opened += x.Second
		}
		for b := range 1 << n {
			if a&b != 0 || bits.OnesCount(uint(b)) != x.Second {
				continue
			}
			pairs++
			accepted += oneIf(found <= x.Accept || again && found+dirtyIn(b, dirty) <= x.Total)
		}
	}
	return lowest(accepted, pairs), lowest(opened, len(firsts))
}

// TestTwice checks P1.6 and P1.15: double rules, set by set; what they accept lies between what their first bags alone accept, and do not refuse.
func TestTwice(t *testing.T) {
	for _, n := range []int{1, 2, 4, 5} {
		for dirty := range n + 1 {
			doubles(n, func(x api.Double) {
				p, q, e := sample.Twice(bags(n), x, dirty)
				if accepts, opens := twiceBySets(n, dirty, x); p != accepts || q != opens || e != api.OK {
					t.Error(n, dirty, x, p, q, e, accepts, opens)
				}
				checkBetween(t, n, dirty, x, p, q)
			})
		}
	}
}

func checkBetween(t *testing.T, n, dirty int, x api.Double, accepts, opens api.Part) {
	least, e := sample.AtMost(bags(n), dirty, draw(x.First, x.Accept))
	most, f := sample.AtMost(bags(n), dirty, draw(x.First, x.Refuse-1))
	if e != api.OK || f != api.OK || rat(accepts).Cmp(rat(least)) < 0 || rat(accepts).Cmp(rat(most)) > 0 {
		t.Error(n, dirty, x, least, accepts, most)
	}
	if rat(opens).Cmp(big.NewRat(int64(x.First), 1)) < 0 || rat(opens).Cmp(big.NewRat(int64(x.First+x.Second), 1)) > 0 {
		t.Error(n, dirty, x, opens)
	}
}

// TestTwiceExamples checks P1.6 by the examples, and by numbers of sets that are as great as they can be.
func TestTwiceExamples(t *testing.T) {
	p, q, e := sample.Twice(bags(10), double(2, 0, 2, 2, 1), 4)
	if p != part(11, 21) || q != part(46, 15) || e != api.OK {
		t.Error(p, q, e)
	}
	for _, dirty := range []int{0, 1, 12, 18, 35, 36} {
		for _, x := range []api.Double{double(12, 2, 9, 12, 10), double(18, 0, 19, 18, 18), double(12, 0, 12, 24, 12)} {
			p, q, e := sample.Twice(bags(36), x, dirty)
			accepts, again := new(big.Rat), new(big.Rat)
			for found := range x.First + 1 {
				first := chance(36, dirty, draw(x.First, found))
				if found <= x.Accept {
					accepts.Add(accepts, first)
				}
				if found <= x.Accept || found >= x.Refuse || first.Sign() == 0 {
					continue
				}
				again.Add(again, first)
				for more := 0; more <= x.Second && found+more <= x.Total; more++ {
					accepts.Add(accepts, new(big.Rat).Mul(first, chance(36-x.First, dirty-found, draw(x.Second, more))))
				}
			}
			opens := again.Mul(again, big.NewRat(int64(x.Second), 1))
			opens.Add(opens, big.NewRat(int64(x.First), 1))
			if e != api.OK || rat(p).Cmp(accepts) != 0 || rat(q).Cmp(opens) != 0 || p != lowest(p.Num, p.Den) || q != lowest(q.Num, q.Den) {
				t.Error(dirty, x, p, q, e)
			}
			checkBetween(t, 36, dirty, x, p, q)
		}
	}
}
