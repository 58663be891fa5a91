package sample_test

import (
	"math/big"
	"slices"
	"testing"

	"oilcake/api"
	"oilcake/sample"
)

// canBe are the numbers of dirty bags that can be after a draw: those that have a chance.
func canBe(c api.Cargo, d api.Draw) []int {
	var l []int
	for n := c.Dirty.Lo; n <= c.Dirty.Hi; n++ {
		if p, _ := sample.Chance(c, n, d); p.Num > 0 {
			l = append(l, n)
		}
	}
	return l
}

// likeliest are the ones of them with the greatest chance.
func likeliest(c api.Cargo, d api.Draw, l []int) []int {
	most := new(big.Rat)
	for _, n := range l {
		if p := chance(c.Bags, n, d); p.Cmp(most) > 0 {
			most = p
		}
	}
	return slices.DeleteFunc(slices.Clone(l), func(n int) bool { return chance(c.Bags, n, d).Cmp(most) < 0 })
}

// TestCan checks P1.3 and P1.10 (what can be is what has a chance): Can, Rest and Likely, for all small cargoes and draws.
func TestCan(t *testing.T) {
	holds(6, func(c api.Cargo) {
		draws(c.Bags, func(d api.Draw) {
			l := canBe(c, d)
			s, e := sample.Can(c, d)
			r, f := sample.Rest(c, d)
			likely, g := sample.Likely(c, d)
			if len(l) == 0 {
				if s != (api.Span{}) || e != api.ErrBad || r != (api.Cargo{}) || f != api.ErrBad || len(likely) != 0 || g != api.ErrBad {
					t.Error(c, d, s, e, r, f, likely, g)
				}
				return
			}
			lo, hi := l[0], l[len(l)-1]
			if s != span(lo, hi) || e != api.OK || len(l) != hi-lo+1 {
				t.Error("Can", c, d, s, e)
			}
			rest, h := some(c.Bags-d.Opened, lo-d.Found, hi-d.Found), api.OK
			if d.Opened == c.Bags {
				rest, h = api.Cargo{}, api.ErrNone
			}
			if r != rest || f != h || h == api.OK && sample.Check(r) != api.OK {
				t.Error("Rest", c, d, r, f)
			}
			if !slices.Equal(likely, likeliest(c, d, l)) || g != api.OK {
				t.Error("Likely", c, d, likely, g)
			}
		})
	})
}

// TestCanExamples checks P1.3 by the examples and by the greatest cargo.
func TestCanExamples(t *testing.T) {
	if s, e := sample.Can(bags(10), draw(3, 1)); s != span(1, 8) || e != api.OK {
		t.Error(s, e)
	}
	if r, e := sample.Rest(bags(10), draw(3, 1)); r != bags(7) || e != api.OK {
		t.Error(r, e)
	}
	for i, x := range []struct {
		c    api.Cargo
		d    api.Draw
		want []int
	}{{bags(10), draw(3, 1), []int{3}}, {bags(10), draw(4, 2), []int{5}}, {bags(11), draw(3, 1), []int{3, 4}}, {bags(36), draw(18, 9), []int{18}}, {bags(35), draw(18, 9), []int{17, 18}}, {some(35, 18, 20), draw(18, 9), []int{18}}} {
		if l, e := sample.Likely(x.c, x.d); !slices.Equal(l, x.want) || e != api.OK {
			t.Error(i, l, e)
		}
	}
	if s, e := sample.Can(bags(36), draw(20, 7)); s != span(7, 23) || e != api.OK {
		t.Error(s, e)
	}
}

// TestMore checks P1.10: one bag more, dirty or not, never adds a number of dirty bags that can be.
func TestMore(t *testing.T) {
	for _, c := range []api.Cargo{bags(7), some(7, 2, 5), some(7, 3, 3), bags(36), some(36, 5, 30)} {
		draws(c.Bags-1, func(d api.Draw) {
			if c.Bags == 36 && d.Opened%7 != 0 {
				return
			}
			s, e := sample.Can(c, d)
			for _, more := range []api.Draw{draw(d.Opened+1, d.Found), draw(d.Opened+1, d.Found+1)} {
				n, f := sample.Can(c, more)
				if f == api.OK && (e != api.OK || n.Lo < s.Lo || n.Hi > s.Hi) {
					t.Error(c, d, s, e, more, n, f)
				}
			}
		})
	}
}

// TestBound checks P1.4: Bound, for all small cargoes and draws.
func TestBound(t *testing.T) {
	holds(6, func(c api.Cargo) {
		draws(c.Bags, func(d api.Draw) {
			l := canBe(c, d)
			for _, p := range chances() {
				want, e := 0, api.ErrNone
				if len(l) == 0 {
					e = api.ErrBad
				}
				for _, n := range l {
					most, _ := sample.AtMost(c, n, d)
					if rat(most).Cmp(rat(p)) >= 0 {
						want, e = n, api.OK
					}
				}
				if n, f := sample.Bound(c, d, p); n != want || f != e {
					t.Error(c, d, p, n, f, want, e)
				}
			}
		})
	})
}

// TestBoundEnds checks P1.4 at the very chance, and by the examples.
func TestBoundEnds(t *testing.T) {
	for i, x := range []struct {
		c    api.Cargo
		d    api.Draw
		p    api.Part
		want int
		e    api.Errno
	}{
		{bags(10), draw(3, 0), part(1, 10), 4, api.OK}, {bags(10), draw(3, 0), part(100, 1000), 4, api.OK},
		{bags(10), draw(3, 0), part(1, 6), 4, api.OK}, {bags(10), draw(3, 0), part(167, 1000), 3, api.OK},
		{bags(36), draw(18, 0), part(1, 1000), 8, api.OK}, {bags(36), draw(18, 0), part(0, 1), 18, api.OK},
		{some(10, 2, 5), draw(3, 0), part(1, 2), 0, api.ErrNone}, {some(10, 2, 5), draw(10, 6), part(1, 2), 0, api.ErrBad},
		{some(10, 0, 5), draw(3, 0), part(1, 1), 0, api.OK},
	} {
		if n, e := sample.Bound(x.c, x.d, x.p); n != x.want || e != x.e {
			t.Error(i, n, e)
		}
	}
}

// TestFind checks P1.4 and P1.12: so many bags find a dirty one with the chance, one less do not.
func TestFind(t *testing.T) {
	for n := 1; n <= 36; n++ {
		for dirty := range n + 1 {
			for _, p := range chances() {
				least, e := sample.Find(bags(n), dirty, p)
				if e == api.ErrNone {
					if dirty > 0 || p.Num == 0 || least != 0 {
						t.Error(n, dirty, p, least, e)
					}
					continue
				}
				finds := func(opened int) bool {
					return new(big.Rat).Sub(big.NewRat(1, 1), chance(n, dirty, draw(opened, 0))).Cmp(rat(p)) >= 0
				}
				if e != api.OK || least < 0 || least > n || !finds(least) || least > 0 && finds(least-1) {
					t.Error(n, dirty, p, least, e)
				}
			}
		}
	}
	for i, x := range []struct {
		p    api.Part
		want int
	}{{part(1, 2), 3}, {part(1, 1), 9}, {part(0, 5), 0}} {
		if n, e := sample.Find(some(10, 2, 2), 2, x.p); n != x.want || e != api.OK {
			t.Error(i, n, e)
		}
	}
}
