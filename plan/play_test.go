package plan_test

import (
	"math/rand"
	"slices"
	"testing"

	"oilcake/api"
	"oilcake/plan"
)

// TestExample checks the chapter's examples.
func TestExample(t *testing.T) {
	for n, want := range []bool{true, true, false, false, false} {
		if is, e := plan.Sure(bursts(example(), n), nil); is != want || e != api.OK {
			t.Error(n, is, e)
		}
	}
	caked := with(example(), func(p *api.Plan) { p.Bursts, p.Cakes = 2, 1 })
	if is, e := plan.Sure(caked, nil); !is || e != api.OK {
		t.Error(is, e)
	}
	if l, e := plan.Order(example()); !slices.Equal(l, []int{cold, cold, cold, hot, cold}) || e != api.OK {
		t.Error(l, e)
	}
	numbers := []struct {
		name string
		f    func() (int, api.Errno)
		want int
	}{
		{"Borne", func() (int, api.Errno) { return plan.Borne(example()) }, 1},
		{"Least", func() (int, api.Errno) { return plan.Least(example()) }, 1},
		{"Lost", func() (int, api.Errno) { return plan.Lost(bursts(example(), 2)) }, 2},
	}
	for _, x := range numbers {
		if n, e := x.f(); n != x.want || e != api.OK {
			t.Error(x.name, n, e)
		}
	}
	for day := 10; day <= 12; day++ {
		n, e := plan.Spare(example(), day)
		m, f := plan.Gains(example(), day)
		if n != 1 || e != api.OK || m != 1 || f != api.OK {
			t.Error(day, n, e, m, f)
		}
	}
	if is, e := plan.Worst(bursts(example(), 2), nil, cold); is || e != api.OK {
		t.Error(is, e)
	}
	if is, e := plan.Worst(bursts(example(), 2), plain(cold, cold), hot); !is || e != api.OK {
		t.Error(is, e)
	}
	if x, e := plan.Play(example(), []api.Did{burst(cold), {Sort: cold}}); x != (api.Left{Day: 11, Seed: 3, Cakes: 1, Cold: 1}) || e != api.OK {
		t.Error(x, e)
	}
	if l, e := plan.Late(example(), plain(none, none, none, none)); !slices.Equal(l, []int{1}) || e != api.OK {
		t.Error(l, e)
	}
	q, e := plan.Had(example(), pressed(1, 1, 1))
	if want := with(example(), func(p *api.Plan) { p.Sales[0].Lots = 1 }); !same(q, want) || e != api.OK {
		t.Error(q, e)
	}
}

// TestPlay checks P4.1 and P4.15: whatever was done, what there is and what is late are as they are told day by day, and nothing is lost but what burst.
func TestPlay(t *testing.T) {
	several := 0
	small(2, 150, func(_ *rand.Rand, p api.Plan) {
		stories(p, func(l []api.Did) {
			s, _ := tell(p, l)
			x, e := plan.Play(p, l)
			late, f := plan.Late(p, l)
			if x != s.left || e != api.OK || !slices.Equal(late, s.late) || f != api.OK {
				t.Fatal(p, l, x, e, late, f, s)
			}
			if len(late) > 1 {
				several++
			}
			kept(t, p, l, x)
		})
	})
	if several < 100 {
		t.Error(several)
	}
}

// kept checks that all seed and all cakes that there were, and came, are there, were pressed, or burst.
func kept(t *testing.T, p api.Plan, l []api.Did, x api.Left) {
	t.Helper()
	seed, cakes, lost := p.Seed, p.Cakes, 0
	for _, a := range p.Arrivals {
		if a.Day <= x.Day {
			seed += a.Lots
		}
	}
	for _, d := range l {
		if d.Burst {
			lost++
		}
		switch d.Sort {
		case cold:
			seed--
			if !d.Burst {
				cakes++
			}
		case hot:
			cakes--
		}
	}
	if x.Seed != seed || x.Cakes != cakes || x.Bursts != p.Bursts-lost || x.Seed < 0 || x.Cakes < 0 || x.Bursts < 0 {
		t.Fatal(p, l, x)
	}
	if x.Cold+x.Hot != count(l, func(d api.Did) bool { return d.Sort != none && !d.Burst }) {
		t.Fatal(p, l, x)
	}
}

// count is of how many turns something is so.
func count(l []api.Did, is func(api.Did) bool) int {
	n := 0
	for _, d := range l {
		if is(d) {
			n++
		}
	}
	return n
}

// TestPlayEmptyDays checks P4.1 where days have no turns: seed is there from the next turn on, and such a day is over when all before it are.
func TestPlayEmptyDays(t *testing.T) {
	p := api.Plan{From: 5, Turns: []int{0, 1, 0, 1, 0}, Seed: 1, Arrivals: []api.Arrival{arrival(5, 1), arrival(7, 2), arrival(9, 4)}, Sales: []api.Sale{sale(1, cold, 2, 9), sale(2, cold, 1, 7), sale(3, hot, 1, 5), sale(4, cold, 1, 6)}}
	for i, x := range []struct {
		l    []api.Did
		left api.Left
		late []int
	}{
		{nil, api.Left{Day: 6, Seed: 2}, []int{3}},
		{plain(none), api.Left{Day: 8, Seed: 4}, []int{2, 3, 4}},
		{plain(cold), api.Left{Day: 8, Seed: 3, Cakes: 1, Cold: 1}, []int{2, 3}},
		{plain(cold, hot), api.Left{Day: 10, Seed: 7, Cold: 1, Hot: 1}, []int{1, 2, 3}},
		{plain(cold, cold), api.Left{Day: 10, Seed: 6, Cakes: 2, Cold: 2}, []int{1, 2, 3}},
	} {
		left, e := plan.Play(p, x.l)
		late, f := plan.Late(p, x.l)
		if left != x.left || e != api.OK || !slices.Equal(late, x.late) || f != api.OK {
			t.Error(i, left, e, late, f)
		}
	}
	p.Turns = make([]int, 5)
	left, e := plan.Play(p, nil)
	late, f := plan.Late(p, nil)
	if left != (api.Left{Day: 10, Seed: 8}) || e != api.OK || !slices.Equal(late, []int{1, 2, 3, 4}) || f != api.OK {
		t.Error(left, e, late, f)
	}
}

// TestLateStands checks P4.1: sales of a sort are filled as they stand, by Days ahead of Ids, and a sale that is late stays so.
func TestLateStands(t *testing.T) {
	p := api.Plan{Turns: []int{4, 2}, Seed: 30, Sales: []api.Sale{sale(1, cold, 1, 1), sale(2, cold, 2, 0), sale(3, cold, 2, 0), sale(4, hot, 1, 0), sale(5, hot, 1, 0)}}
	for i, x := range []struct {
		l    []api.Did
		late []int
	}{
		{plain(none, none, none), nil},
		{plain(none, none, none, none), []int{2, 3, 4, 5}},
		{plain(cold, none, none, none), []int{2, 3, 4, 5}},
		{plain(cold, cold, none, none), []int{3, 4, 5}},
		{plain(cold, cold, cold, hot), []int{3, 5}},
		{plain(cold, cold, hot, hot), []int{3}},
		{plain(cold, cold, hot, hot, cold, cold), []int{1, 3}},
		{plain(cold, cold, cold, hot, cold, cold), []int{3, 5}},
		{plain(cold, cold, cold, cold, hot, hot), []int{1, 4, 5}},
	} {
		if late, e := plan.Late(p, x.l); !slices.Equal(late, x.late) || e != api.OK {
			t.Error(i, late, e)
		}
	}
}
