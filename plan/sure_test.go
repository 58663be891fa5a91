package plan_test

import (
	"math/rand"
	"slices"
	"testing"

	"oilcake/api"
	"oilcake/plan"
)

// TestSure checks P4.2 to P4.4: whether it is sure, what is pressed next, and whether the next turn bursts, after all that can have been done, are as the chapter says it when all is tried.
func TestSure(t *testing.T) {
	counts := map[string]int{}
	small(3, 400, func(_ *rand.Rand, p api.Plan) {
		stories(p, func(l []api.Did) {
			want := isSure(p, l)
			if is, e := plan.Sure(p, l); is != want || e != api.OK {
				t.Fatal(p, l, is, e, want)
			}
			if want {
				counts["sure"]++
			} else {
				counts["unsure"]++
			}
			if len(l) == all(p.Turns) {
				n, e := plan.Next(p, l)
				is, f := plan.Worst(p, l, none)
				if n != 0 || e != api.ErrNone || is || f != api.ErrNone {
					t.Fatal(p, l, n, e, is, f)
				}
				return
			}
			checkNext(t, p, l, want, counts)
			for sort := range 3 {
				checkWorst(t, p, l, sort, want, counts)
			}
		})
	})
	for _, x := range []string{"sure", "unsure", "cold", "hot", "none", "bursts", "does not", "cannot be"} {
		if counts[x] < 100 {
			t.Error(counts)
		}
	}
}

// checkNext checks what is pressed next.
func checkNext(t *testing.T, p api.Plan, l []api.Did, sure bool, counts map[string]int) {
	t.Helper()
	n, e := plan.Next(p, l)
	if !sure {
		if n != 0 || e != api.ErrLate {
			t.Fatal(p, l, n, e)
		}
		return
	}
	can := choices(p, l)
	if i := slices.IndexFunc(can, func(sort int) bool { return staysSure(p, l, sort) }); n != can[i] || e != api.OK {
		t.Fatal(p, l, n, e, can)
	}
	counts[[]string{"none", "cold", "hot"}[n]]++
}

// checkWorst checks whether the next turn bursts, if a sort is pressed.
func checkWorst(t *testing.T, p api.Plan, l []api.Did, sort int, sure bool, counts map[string]int) {
	t.Helper()
	is, e := plan.Worst(p, l, sort)
	switch {
	case !slices.Contains(choices(p, l), sort):
		counts["cannot be"]++
		if is || e != api.ErrArg {
			t.Fatal(p, l, sort, is, e)
		}
	case sure:
		if is || e != api.ErrLate {
			t.Fatal(p, l, sort, is, e)
		}
	default:
		if want := isSure(p, then(l, sort, false)); is != want || e != api.OK {
			t.Fatal(p, l, sort, is, e, want)
		}
		if _, ok := tell(p, then(l, sort, is)); !ok || isSure(p, then(l, sort, is)) {
			t.Fatal(p, l, sort, is)
		}
		counts[map[bool]string{true: "bursts", false: "does not"}[is]]++
	}
}

// TestSureGreat checks P4.2 with plans of any size, against what is told from the end on.
func TestSureGreat(t *testing.T) {
	counts := map[bool]int{}
	great(4, 1000, func(_ *rand.Rand, p api.Plan) {
		want := isSureOf(p)
		if is, e := plan.Sure(p, nil); is != want || e != api.OK {
			t.Fatal(p, is, e, want)
		}
		counts[want]++
	})
	if counts[true] < 200 || counts[false] < 200 {
		t.Error(counts)
	}
}

// TestSureEnds checks P4.2 at the ends of what can be: the greatest plan, one without turns, and one that is late before its first turn.
func TestSureEnds(t *testing.T) {
	for lots := 1; lots <= 6; lots++ { // with 17 more, and 4 turns that may burst, of 24
		p := api.Plan{Turns: []int{4, 4, 4, 4, 4, 4}, Seed: 30, Cakes: 30, Bursts: 4, Sales: []api.Sale{sale(1, cold, 6, 5), sale(2, cold, 5, 5), sale(3, hot, 6, 5), sale(4, hot, lots, 5)}}
		if is, e := plan.Sure(p, nil); is != (lots <= 3) || e != api.OK {
			t.Error(lots, is, e)
		}
	}
	for i, x := range []struct {
		p    api.Plan
		want bool
	}{
		{api.Plan{Turns: []int{0, 0}}, true},
		{api.Plan{Turns: []int{0, 0}, Seed: 30, Cakes: 30, Sales: []api.Sale{sale(1, hot, 1, 1)}}, false},
		{api.Plan{Turns: []int{0, 4}, Seed: 30, Cakes: 30, Sales: []api.Sale{sale(1, cold, 1, 0)}}, false},
		{api.Plan{Turns: []int{0, 4}, Seed: 30, Cakes: 30, Sales: []api.Sale{sale(1, cold, 1, 1)}}, true},
		{api.Plan{Turns: []int{4, 0}, Seed: 1, Sales: []api.Sale{sale(1, cold, 1, 1), sale(2, hot, 1, 1)}}, true},
		{api.Plan{Turns: []int{4, 0}, Seed: 1, Bursts: 1, Sales: []api.Sale{sale(1, cold, 1, 1)}}, false},
		{api.Plan{Turns: []int{4, 0}, Seed: 0, Arrivals: []api.Arrival{arrival(1, 30)}, Sales: []api.Sale{sale(1, cold, 1, 1)}}, false},
	} {
		if is, e := plan.Sure(x.p, nil); is != x.want || e != api.OK {
			t.Error(i, is, e)
		}
		want := map[bool]api.Errno{true: api.OK, false: api.ErrLate}[x.want]
		l, e := plan.Order(x.p)
		if e != want || e == api.OK && len(l) != all(x.p.Turns) {
			t.Error(i, l, e)
		}
	}
	// a sale that was late stays late, whatever there is then
	p := api.Plan{Turns: []int{1, 4}, Seed: 30, Sales: []api.Sale{sale(1, cold, 1, 0)}}
	if is, e := plan.Sure(p, plain(none, cold, cold)); is || e != api.OK {
		t.Error(is, e)
	}
	if is, e := plan.Worst(p, plain(none, cold), cold); is || e != api.OK {
		t.Error(is, e)
	}
}

// TestOrder checks P4.3: in each turn is pressed what Next tells, if none bursts.
func TestOrder(t *testing.T) {
	check := func(p api.Plan) {
		l, e := plan.Order(p)
		is, _ := plan.Sure(p, nil)
		if !is {
			if len(l) > 0 || e != api.ErrLate {
				t.Fatal(p, l, e)
			}
			return
		}
		if len(l) != all(p.Turns) || e != api.OK {
			t.Fatal(p, l, e)
		}
		for i := range l {
			if n, e := plan.Next(p, plain(l[:i]...)); n != l[i] || e != api.OK {
				t.Fatal(p, l, i, n, e)
			}
		}
	}
	small(5, 300, func(_ *rand.Rand, p api.Plan) { check(p) })
	great(6, 100, func(_ *rand.Rand, p api.Plan) { check(p) })
}

// TestNoneLate checks P4.9: if it is sure, and what Next tells is pressed, no sale is late, whatever bursts.
func TestNoneLate(t *testing.T) {
	ends := 0
	play := func(p api.Plan, l []api.Did) []api.Did { // what Next tells is pressed, till a turn can burst
		for len(l) < all(p.Turns) {
			n, e := plan.Next(p, l)
			if e != api.OK {
				t.Fatal(p, l, e)
			}
			l = then(l, n, false)
		}
		ends++
		if late, e := plan.Late(p, l); len(late) > 0 || e != api.OK {
			t.Fatal(p, l, late, e)
		}
		return l
	}
	great(7, 400, func(r *rand.Rand, p api.Plan) {
		if is, _ := plan.Sure(p, nil); !is {
			return
		}
		var try func(l []api.Did)
		try = func(l []api.Did) {
			full := play(p, l)
			for at := len(l); at < len(full); at++ { // any turn of these can burst first
				if r.Intn(4) > 0 && len(full) > 6 {
					continue
				}
				if next := then(full[:at], full[at].Sort, true); isDone(p, next) {
					try(next)
				}
			}
		}
		try(nil)
	})
	if ends < 1000 {
		t.Error(ends)
	}
}

func isDone(p api.Plan, l []api.Did) bool {
	_, ok := tell(p, l)
	return ok
}

// TestSomeLate checks P4.10: if it is not sure, whatever is pressed, with the turns that burst as Worst tells some sale is late.
func TestSomeLate(t *testing.T) {
	burst := 0
	end := func(p api.Plan, l []api.Did) {
		late, e := plan.Late(p, l)
		if lost := count(l, func(d api.Did) bool { return d.Burst }); len(late) == 0 || e != api.OK || lost > p.Bursts {
			t.Fatal(p, l, late, e, lost)
		} else if lost > 0 {
			burst++
		}
	}
	worst := func(p api.Plan, l []api.Did, sort int) []api.Did {
		is, e := plan.Worst(p, l, sort)
		if e != api.OK {
			t.Fatal(p, l, sort, e)
		}
		return then(l, sort, is)
	}
	small(8, 150, func(_ *rand.Rand, p api.Plan) {
		if is, _ := plan.Sure(p, nil); is {
			return
		}
		var try func(l []api.Did)
		try = func(l []api.Did) {
			if len(l) == all(p.Turns) {
				end(p, l)
				return
			}
			for _, sort := range choices(p, l) {
				try(worst(p, l, sort))
			}
		}
		try(nil)
	})
	great(9, 100, func(r *rand.Rand, p api.Plan) {
		if is, _ := plan.Sure(p, nil); is {
			return
		}
		for range 10 {
			var l []api.Did
			for len(l) < all(p.Turns) {
				can := choices(p, l)
				l = worst(p, l, can[r.Intn(max(1, len(can)-1))])
			}
			end(p, l)
		}
	})
	if burst < 300 {
		t.Error(burst)
	}
}

// only is a plan with the first sales only, as they stand.
func only(p api.Plan, n int) api.Plan {
	return with(p, func(p *api.Plan) {
		first := standing(*p)[:n]
		p.Sales = slices.DeleteFunc(p.Sales, func(x api.Sale) bool { return !slices.Contains(first, x) })
	})
}

// TestLost checks P4.5 and P4.11: with all sales before the one that is told it is sure, with this one it is not.
func TestLost(t *testing.T) {
	counts := map[int]int{}
	check := func(_ *rand.Rand, p api.Plan) {
		id, e := plan.Lost(p)
		n := 0 // so many sales are the fewest that are not sure
		for n <= len(p.Sales) && isSureOf(only(p, n)) {
			n++
		}
		if n > len(p.Sales) {
			if id != 0 || e != api.ErrNone {
				t.Fatal(p, id, e)
			}
			return
		}
		if id != standing(p)[n-1].Id || e != api.OK {
			t.Fatal(p, id, e, n)
		}
		counts[n]++
	}
	small(10, 500, check)
	great(11, 300, check)
	if counts[1] < 20 || counts[2] < 20 || counts[3] < 20 {
		t.Error(counts)
	}
	// the sale with the least Id stands last
	p := api.Plan{Turns: []int{1, 1}, Seed: 9, Sales: []api.Sale{sale(1, cold, 1, 1), sale(2, cold, 1, 0), sale(3, hot, 1, 1)}}
	if id, e := plan.Lost(p); id != 3 || e != api.OK {
		t.Error(id, e)
	}
	p.Sales[1].Day, p.Sales[2].Day = 1, 0
	if id, e := plan.Lost(p); id != 3 || e != api.OK {
		t.Error(id, e)
	}
}

// TestBorne checks P4.5 and P4.12: with the most bursts that are told it is sure, with one more it is not.
func TestBorne(t *testing.T) {
	counts := map[int]int{}
	check := func(_ *rand.Rand, p api.Plan) {
		n, e := plan.Borne(p)
		want := 0
		for want <= 4 && isSureOf(bursts(p, want)) {
			want++
		}
		counts[want]++
		if want == 0 {
			if n != 0 || e != api.ErrLate {
				t.Fatal(p, n, e)
			}
		} else if n != want-1 || e != api.OK {
			t.Fatal(p, n, e, want)
		}
	}
	small(12, 500, check)
	great(13, 300, check)
	for n := range 6 {
		if counts[n] < 20 {
			t.Error(counts)
		}
	}
}

// TestLeast checks P4.5 and P4.12: with the least seed that is told it is sure, with one lot less it is not.
func TestLeast(t *testing.T) {
	counts := map[int]int{}
	check := func(_ *rand.Rand, p api.Plan) {
		n, e := plan.Least(p)
		want := 0
		for want <= 30 && !isSureOf(with(p, func(p *api.Plan) { p.Seed = want })) {
			want++
		}
		counts[want]++
		if want > 30 {
			if n != 0 || e != api.ErrLate {
				t.Fatal(p, n, e)
			}
		} else if n != want || e != api.OK {
			t.Fatal(p, n, e, want)
		}
	}
	small(14, 800, check)
	great(15, 200, check)
	for _, n := range []int{0, 1, 2, 3, 4, 5, 31} {
		if counts[n] < 8 {
			t.Error(counts)
		}
	}
	most := api.Plan{Turns: []int{4, 4, 4, 4, 4, 4}, Sales: []api.Sale{sale(1, cold, 6, 5), sale(2, cold, 6, 5), sale(3, cold, 6, 5), sale(4, cold, 6, 5)}}
	if n, e := plan.Least(most); n != 24 || e != api.OK {
		t.Error(n, e)
	}
}

// TestMore checks P4.13: a turn, a lot of seed or a cake more, a burst less, or a sale less never makes it unsure.
func TestMore(t *testing.T) {
	kinds := map[int]int{}
	check := func(r *rand.Rand, p api.Plan) {
		if is, _ := plan.Sure(p, nil); !is {
			return
		}
		for kind, q := range []api.Plan{
			with(p, func(p *api.Plan) { p.Turns[r.Intn(len(p.Turns))]++ }),
			with(p, func(p *api.Plan) { p.Seed++ }),
			with(p, func(p *api.Plan) { p.Cakes++ }),
			with(p, func(p *api.Plan) { p.Bursts-- }),
			with(p, func(p *api.Plan) {
				if i := r.Intn(len(p.Sales) + 1); i < len(p.Sales) {
					p.Sales = slices.Delete(p.Sales, i, i+1)
				}
			}),
		} {
			if plan.Check(q) != api.OK {
				continue
			}
			if is, e := plan.Sure(q, nil); !is || e != api.OK {
				t.Fatal(p, q, is, e)
			}
			kinds[kind]++
		}
	}
	small(16, 300, check)
	great(17, 200, check)
	for kind := range 5 {
		if kinds[kind] < 100 {
			t.Error(kinds)
		}
	}
}

// TestSpare checks P4.6 and P4.14: so many turns of a day as are told can be left out, and no more.
func TestSpare(t *testing.T) {
	counts := map[int]int{}
	check := func(r *rand.Rand, p api.Plan) {
		p = only(p, r.Intn(len(p.Sales)+1))
		for day := -1; day < 20; day++ {
			n, e := plan.Spare(p, day)
			i := day - p.From
			if i < 0 || i >= len(p.Turns) {
				if n != 0 || e != api.ErrArg {
					t.Fatal(p, day, n, e)
				}
				continue
			}
			want := 0
			for want <= p.Turns[i] && isSureOf(with(p, func(p *api.Plan) { p.Turns[i] -= want })) {
				want++
			}
			if want == 0 {
				if n != 0 || e != api.ErrLate {
					t.Fatal(p, day, n, e)
				}
			} else if n != want-1 || e != api.OK {
				t.Fatal(p, day, n, e, want)
			} else if n < p.Turns[i] {
				counts[n]++
			}
		}
	}
	small(18, 300, check)
	great(19, 100, check)
	if counts[0] < 20 || counts[1] < 20 || counts[2] < 5 {
		t.Error(counts)
	}
}

// TestGains checks P4.6 and P4.14: so many bursts more are borne with a turn more, and never fewer.
func TestGains(t *testing.T) {
	counts := map[int]int{}
	borne := func(p api.Plan) int {
		n := -1
		for n < 4 && isSureOf(bursts(p, n+1)) {
			n++
		}
		return n
	}
	check := func(_ *rand.Rand, p api.Plan) {
		for day := -1; day < 20; day++ {
			n, e := plan.Gains(p, day)
			i := day - p.From
			if i < 0 || i >= len(p.Turns) {
				if n != 0 || e != api.ErrArg {
					t.Fatal(p, day, n, e)
				}
				continue
			}
			if p.Turns[i] == 4 || all(p.Turns) == 24 {
				if n != 0 || e != api.ErrFull {
					t.Fatal(p, day, n, e)
				}
				continue
			}
			most := borne(with(p, func(p *api.Plan) { p.Turns[i]++ }))
			if most < 0 {
				if n != 0 || e != api.ErrLate {
					t.Fatal(p, day, n, e)
				}
			} else if n != most-borne(p) || n < 0 || e != api.OK {
				t.Fatal(p, day, n, e, most)
			} else {
				counts[n]++
				if borne(p) < 0 {
					counts[-1]++
				}
			}
		}
	}
	small(20, 200, check)
	great(21, 60, check)
	if counts[0] < 50 || counts[1] < 50 || counts[-1] < 20 {
		t.Error(counts)
	}
}
