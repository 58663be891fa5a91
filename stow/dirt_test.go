package stow_test

import (
	"math/rand"
	"testing"

	"oilcake/api"
	"oilcake/sample"
	"oilcake/stow"
)

// TestDirtExamples checks P5.3 and P5.4 by the chapter's examples.
func TestDirtExamples(t *testing.T) {
	s := example()
	if b, e := stow.Bags(s, 1); b != span(4, 8) || e != api.OK {
		t.Error(b, e)
	}
	if d, e := stow.Dirty(s, 1); d != span(0, 5) || e != api.OK {
		t.Error(d, e)
	}
	for hold := 1; hold <= 2; hold++ {
		if v, e := stow.Verdict(s, hold); v != api.KnownOpen || e != api.OK {
			t.Error(hold, v, e)
		}
	}
	if c, e := stow.Costs(s, 1, terms()); c != span(0, 1000) || e != api.OK {
		t.Error(c, e)
	}
	if n, e := stow.Find(s, 1, part(1, 2)); n != 2 || e != api.OK {
		t.Error(n, e)
	}
}

// off is what terms take off for dirty bags: of the last one that is reached.
func off(l []api.Term, bags, dirty int) int {
	for i := len(l) - 1; i >= 0; i-- {
		if bags > 0 && 100*dirty >= bags*l[i].From {
			return l[i].Pence
		}
	}
	return 0
}

// sets is how many sets of k of n bags there are.
func sets(n, k int) int {
	if k < 0 || k > n {
		return 0
	}
	ways := 1
	for i := range k {
		ways = ways * (n - i) / (i + 1)
	}
	return ways
}

// fewest is how many bags find a dirty one with at least a chance: of all sets of so many those count that are not clean.
func fewest(bags, dirty int, p api.Part) int {
	for n := range bags + 1 {
		if (sets(bags, n)-sets(bags-dirty, n))*p.Den >= sets(bags, n)*p.Num {
			return n
		}
	}
	return bags + 1
}

func chances() []api.Part {
	return []api.Part{part(0, 1), part(1, 1000), part(1, 10), part(1, 2), part(2, 4), part(9, 10), part(999, 1000), part(1, 1), part(1000, 1000)}
}

// TestDirtAll checks P5.3, P5.4, P5.8 and P5.14: of all ways as they are laid bag by bag, bags, dirty ones, verdicts, what is taken off, and how many bags find a dirty one.
func TestDirtAll(t *testing.T) {
	verdicts, clean := map[uint8]int{}, 0
	ships(5, 600, 36, func(r *rand.Rand, s api.Ship) {
		piles := piles(s)
		p, l := chances()[r.Intn(9)], terms()[:r.Intn(4)]
		for _, h := range s.Holds {
			var bags, dirty, keeps, pence []int
			most := 0
			for _, x := range piles {
				b, d := x.load(s, h.Id)
				bags, dirty, pence = append(bags, b), append(dirty, d), append(pence, off(l, b, d))
				k := 0
				if x.keeps(s, h.Id) {
					k = 2
				}
				keeps = append(keeps, k)
				if d > 0 {
					most = max(most, fewest(b, d, p))
				}
			}
			want := ends(keeps)
			verdict := uint8((want.Lo + want.Hi) / 2)
			b, e := stow.Bags(s, h.Id)
			d, f := stow.Dirty(s, h.Id)
			v, g := stow.Verdict(s, h.Id)
			c, i := stow.Costs(s, h.Id, l)
			if b != ends(bags) || d != ends(dirty) || v != verdict || c != ends(pence) || e != api.OK || f != api.OK || g != api.OK || i != api.OK {
				t.Fatal(s, h, b, d, v, c, e, f, g, i, ends(bags), ends(dirty), verdict, ends(pence))
			}
			n, e := stow.Find(s, h.Id, p)
			if none := ends(dirty).Hi == 0; n != most || none != (e == api.ErrNone) || !none && e != api.OK {
				t.Fatal(s, h, p, n, e, most)
			}
			verdicts[v]++
			if e != api.OK {
				clean++
			}
		}
	})
	if verdicts[api.KnownNo] < 50 || verdicts[api.KnownOpen] < 50 || verdicts[api.KnownYes] < 50 || clean < 50 {
		t.Error(verdicts, clean)
	}
}

// TestLayer1 checks P5.14: what is told is what layer 1 tells of some way, and of no way more.
func TestLayer1(t *testing.T) {
	ships(6, 150, 36, func(r *rand.Rand, s api.Ship) {
		hold := s.Holds[r.Intn(len(s.Holds))].Id
		p, l := chances()[r.Intn(9)], terms()
		n, e := stow.Find(s, hold, p)
		costs, f := stow.Costs(s, hold, l)
		least, most, found, some := false, false, false, false
		for _, x := range piles(s) {
			bags, dirty := x.load(s, hold)
			pence, g := sample.Off(l, api.Draw{Opened: bags, Found: dirty})
			if g != api.OK || pence < costs.Lo || pence > costs.Hi {
				t.Fatal(s, hold, pence, costs)
			}
			least, most = least || pence == costs.Lo, most || pence == costs.Hi
			if dirty == 0 {
				continue
			}
			some = true
			m, g := sample.Find(api.Cargo{Bags: bags, Dirty: span(dirty, dirty)}, dirty, p)
			if g != api.OK || m > n {
				t.Fatal(s, hold, m, n)
			}
			found = found || m == n
		}
		if !least || !most || found != some || f != api.OK || (e == api.OK) != some {
			t.Fatal(s, hold, costs, n, e, f)
		}
	})
}

// TestLimit checks P5.3 and P5.16: a higher limit never makes a hold worse; one of 100 is kept by all, one of 0 by those without a dirty bag.
func TestLimit(t *testing.T) {
	ships(7, 150, 36, func(r *rand.Rand, s api.Ship) {
		for _, h := range s.Holds {
			before := uint8(api.KnownNo)
			for limit := range 101 {
				v, e := stow.Verdict(with(s, func(s *api.Ship) { s.Limit = limit }), h.Id)
				if e != api.OK || v < before || v > api.KnownYes {
					t.Fatal(s, h, limit, v, before, e)
				}
				before = v
				if d, _ := stow.Dirty(s, h.Id); limit == 0 && (v == api.KnownYes) != (d.Hi == 0) || limit == 0 && (v == api.KnownNo) != (d.Lo > 0) {
					t.Fatal(s, h, v, d)
				}
			}
			if before != api.KnownYes {
				t.Fatal(s, h, before)
			}
		}
	})
}

// TestLimitEnds checks P5.3 at the last bag: as many dirty bags as the limit allows are within it, and an empty hold always is.
func TestLimitEnds(t *testing.T) {
	for _, x := range []struct {
		bags, dirty, limit int
		want               uint8
	}{
		{10, 2, 20, api.KnownYes}, {10, 2, 19, api.KnownNo}, {3, 1, 33, api.KnownNo}, {3, 1, 34, api.KnownYes}, {36, 36, 99, api.KnownNo}, {36, 36, 100, api.KnownYes},
		{36, 35, 97, api.KnownNo}, {36, 35, 98, api.KnownYes}, {36, 0, 0, api.KnownYes}, {1, 1, 0, api.KnownNo}, {36, 1, 2, api.KnownNo}, {36, 1, 3, api.KnownYes},
	} {
		s := api.Ship{Holds: holds(x.bags), Lots: []api.Lot{lot(1, 1, x.bags, x.dirty)}, Limit: x.limit}
		if v, e := stow.Verdict(s, 1); v != x.want || e != api.OK {
			t.Error(x, v, e)
		}
		s.Holds = append(s.Holds, api.Hold{Id: 2, Room: x.bags}) // it lies there or here: each hold may be empty
		want := min(x.want+api.KnownOpen, api.KnownYes)
		if v, e := stow.Verdict(s, 2); v != want || e != api.OK {
			t.Error(x, v, e)
		}
	}
}

// TestFindWays checks P5.4: ways without dirty bags in the hold do not count, the worst one of the other ones does; a chance of 0 takes no bags.
func TestFindWays(t *testing.T) {
	s := api.Ship{Holds: holds(9, 9), Lots: []api.Lot{lot(1, 1, 4, 0), lot(2, 2, 5, 5)}}
	for _, x := range []struct {
		p    api.Part
		want int
	}{{part(0, 7), 0}, {part(1, 1000), 1}, {part(5, 9), 1}, {part(9, 10), 3}, {part(1, 1), 5}} {
		if n, e := stow.Find(s, 1, x.p); n != x.want || e != api.OK {
			t.Error(x, n, e)
		}
	}
	s.Probes = []api.Probe{probe(1, 1, 0, 1)}
	if n, e := stow.Find(s, 1, part(0, 1)); n != 0 || e != api.ErrNone {
		t.Error(n, e)
	}
}
