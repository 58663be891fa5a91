package sample_test

import (
	"math/big"
	"slices"
	"testing"

	"oilcake/api"
	"oilcake/sample"
)

// someTerms are valid ones, to the ends of what is allowed.
func someTerms() [][]api.Term {
	return [][]api.Term{nil, {}, terms(1, 1), terms(100, 7), terms(5, 100, 10, 300, 30, 1000), terms(1, 0, 2, 0, 3, 1000000), terms(10, 5, 25, 5, 50, 6, 75, 900000, 100, 1000000), terms(33, 20, 34, 30, 66, 40, 67, 50)}
}

// taken is what terms take off, as a share of the bags.
func taken(l []api.Term, opened, found int) int {
	if opened == 0 {
		return 0
	}
	pence := 0
	for _, x := range l {
		if big.NewRat(int64(x.From), 100).Cmp(big.NewRat(int64(found), int64(opened))) <= 0 {
			pence = x.Pence
		}
	}
	return pence
}

// TestOff checks P1.7 and P1.16: what is taken off for all draws; it never falls with a dirty bag more.
func TestOff(t *testing.T) {
	for i, l := range someTerms() {
		for opened := range 37 {
			before := 0
			for found := range opened + 1 {
				n, e := sample.Off(l, draw(opened, found))
				if n != taken(l, opened, found) || e != api.OK || n < before {
					t.Error(i, opened, found, n, e)
				}
				before = n
			}
		}
	}
	steps := terms(5, 100, 10, 300, 30, 1000)
	for i, x := range []struct {
		d    api.Draw
		want int
	}{{draw(3, 1), 1000}, {draw(10, 1), 300}, {draw(20, 1), 100}, {draw(3, 0), 0}, {draw(0, 0), 0}, {draw(21, 1), 0}, {draw(20, 2), 300}} {
		if n, e := sample.Off(steps, x.d); n != x.want || e != api.OK {
			t.Error(i, n, e)
		}
	}
}

// TestTerms checks P1.7: terms at the ends of what is allowed are valid, those behind them not.
func TestTerms(t *testing.T) {
	for i, x := range []struct {
		l []api.Term
		e api.Errno
	}{
		{terms(1, 0), api.OK}, {terms(100, 1000000), api.OK}, {terms(1, 5, 2, 5, 3, 5, 4, 5, 100, 5), api.OK},
		{terms(0, 0), api.ErrTerms}, {terms(101, 0), api.ErrTerms}, {terms(1, -1), api.ErrTerms}, {terms(1, 1000001), api.ErrTerms},
		{terms(3, 1, 3, 1), api.ErrTerms}, {terms(3, 1, 2, 1), api.ErrTerms}, {terms(3, 2, 4, 1), api.ErrTerms}, {terms(1, 0, 2, 0, 3, 0, 4, 0, 5, 0, 6, 0), api.ErrTerms},
	} {
		if _, e := sample.Off(x.l, draw(0, 0)); e != x.e {
			t.Error(i, e)
		}
		if _, e := sample.Fair(bags(1), 0, 0, x.l); e != x.e {
			t.Error(i, e)
		}
	}
}

// TestFair checks P1.7 and P1.16: what is taken off in the middle, set by set; it lies between the least and the greatest.
func TestFair(t *testing.T) {
	for _, l := range someTerms() {
		for _, n := range []int{1, 3, 6} {
			for dirty := range n + 1 {
				for opened := range n + 1 {
					p, e := sample.Fair(bags(n), dirty, opened, l)
					want := middle(n, dirty, opened, func(found int) int { return taken(l, opened, found) })
					if p != want || e != api.OK {
						t.Error(n, dirty, opened, l, p, e)
					}
				}
			}
		}
		checkFair(t, l)
	}
	if p, e := sample.Fair(bags(10), 4, 3, terms(5, 100, 10, 300, 30, 1000)); p != part(2500, 3) || e != api.OK {
		t.Error(p, e)
	}
}

// checkFair checks the greatest cargo by the formula, with all draws that can be.
func checkFair(t *testing.T, l []api.Term) {
	for _, dirty := range []int{0, 1, 17, 18, 36} {
		for opened := range 37 {
			p, e := sample.Fair(bags(36), dirty, opened, l)
			sum := new(big.Rat)
			var can []int
			for found := range opened + 1 {
				c := chance(36, dirty, draw(opened, found))
				if c.Sign() > 0 {
					can = append(can, taken(l, opened, found))
				}
				sum.Add(sum, c.Mul(c, big.NewRat(int64(taken(l, opened, found)), 1)))
			}
			least, most := big.NewRat(int64(slices.Min(can)), 1), big.NewRat(int64(slices.Max(can)), 1)
			if e != api.OK || rat(p).Cmp(sum) != 0 || p != lowest(p.Num, p.Den) || sum.Cmp(least) < 0 || sum.Cmp(most) > 0 {
				t.Error(dirty, opened, l, p, e)
			}
		}
	}
}

// award is an award, with what is in the middle sorted out.
func award(a, b, umpire int) int {
	greater, less := max(a, b), min(a, b)
	if (greater-less)*10 <= greater {
		return (a + b) / 2
	}
	l := []int{a, b, umpire}
	slices.Sort(l)
	return l[1]
}

// TestAward checks P1.7 and P1.17.
func TestAward(t *testing.T) {
	named := []int{0, 1, 2, 9, 10, 11, 90, 99, 100, 109, 110, 111, 120, 899999, 900000, 900001, 999999, 1000000}
	for _, a := range named {
		for _, b := range named {
			for _, umpire := range named {
				n, e := sample.Award(a, b, umpire)
				other, f := sample.Award(b, a, umpire)
				if n != award(a, b, umpire) || e != api.OK || other != n || f != api.OK {
					t.Error(a, b, umpire, n, e, other, f)
				}
				if n < min(a, b, umpire) || n > max(a, b, umpire) {
					t.Error(a, b, umpire, n)
				}
				between := umpire >= min(a, b) && umpire <= max(a, b) || max(a, b)-min(a, b) <= max(a, b)/10
				if between && (n < min(a, b) || n > max(a, b)) {
					t.Error(a, b, umpire, n)
				}
			}
		}
	}
	for i, x := range [][4]int{{100, 110, 500, 105}, {100, 120, 90, 100}, {100, 120, 115, 115}, {9, 10, 3, 9}, {0, 0, 5, 0}, {900000, 1000000, 0, 950000}, {899999, 1000000, 0, 899999}, {89, 100, 0, 89}, {90, 100, 0, 95}} {
		if n, e := sample.Award(x[0], x[1], x[2]); n != x[3] || e != api.OK {
			t.Error(i, n, e)
		}
	}
}
