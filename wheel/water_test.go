package wheel_test

import (
	"math/rand"
	"testing"

	"oilcake/api"
	"oilcake/plan"
	"oilcake/wheel"
)

// enough are the whole turns of a plan: the last wheel turns by whole turns, and a turn takes so many of these.
func enough(water int, ratio api.Part, blows int) int {
	whole := 0
	for (whole+1)*ratio.Den <= water*ratio.Num && whole < 5*blows {
		whole++
	}
	turns := 0
	for ; whole >= blows; whole -= blows {
		turns++
	}
	return turns
}

// TestPaced checks P10.8: as many turns are left on each day as there were, and as the water is enough for; all else is as it was.
func TestPaced(t *testing.T) {
	full := api.Plan{From: 3641, Turns: ints(4, 4, 4, 4, 0, 1, 2, 3, 0, 0, 0, 2), Seed: 30, Cakes: 30, Bursts: 4}
	for _, x := range []struct {
		p     api.Plan
		water []int
		w     api.Wheels
		l     []api.Pair
		blows int
		want  []int
	}{
		{examplePlan(), ints(100, 30, 0), exampleWheels(), train(1, 2), 20, ints(2, 1, 0)},
		{examplePlan(), ints(60, 59, 100000), exampleWheels(), train(1, 2), 20, ints(2, 1, 1)},
		{examplePlan(), ints(29, 30, 31), exampleWheels(), train(1, 2), 20, ints(0, 1, 1)},
		{examplePlan(), ints(2, 3, 1), exampleWheels(), train(1, 2), 1, ints(1, 2, 0)},
		{examplePlan(), ints(1, 2, 3), exampleWheels(), train(1, 2), 1, ints(0, 1, 1)},
		{examplePlan(), ints(100, 99, 49), exampleWheels(), train(1, 2, 4, 3), 20, ints(2, 1, 0)},
		{examplePlan(), ints(100000, 100000, 100000), exampleWheels(), train(1, 2), 10000, ints(2, 2, 1)},
		{examplePlan(), ints(15000, 14999, 30000), exampleWheels(), train(1, 2), 10000, ints(1, 0, 1)},
		{examplePlan(), ints(100000, 100000, 100000), wheels(120, 6, 120, 6, 120, 6), train(1, 2, 3, 4, 5, 6), 10000, ints(2, 2, 1)},
		{examplePlan(), ints(100000, 99999, 100000), wheels(120, 6, 120, 6, 120, 6), train(2, 1, 4, 3, 6, 5), 12, ints(1, 1, 1)},
		{examplePlan(), ints(96000, 95999, 8000), wheels(120, 6, 120, 6, 120, 6), train(2, 1, 4, 3, 6, 5), 12, ints(1, 0, 0)},
		{full, ints(0, 1, 2, 3, 4, 5, 6, 7, 8, 9, 10, 11), wheels(20, 40), train(1, 2), 1, ints(0, 0, 1, 1, 0, 1, 2, 3, 0, 0, 0, 2)},
	} {
		want := x.p
		want.Turns = x.want
		if p, e := wheel.Paced(x.p, x.water, x.w, x.l, x.blows); !samePlan(p, want) || e != api.OK {
			t.Error(x.water, x.l, x.blows, p, e)
		}
	}
	r := rand.New(rand.NewSource(1))
	for n := range 1500 {
		p := somePlan(r)
		w := someWheels(r, 6, n%2 == 0)
		l := someTrain(r, w, 1+r.Intn(3))
		blows := 1 + r.Intn(60)
		want := p
		var water []int
		want.Turns = nil
		for _, turns := range p.Turns {
			water = append(water, r.Intn(200))
			want.Turns = append(want.Turns, min(turns, enough(water[len(water)-1], parted(ratio(w, l)), blows)))
		}
		if q, e := wheel.Paced(p, water, w, l, blows); !samePlan(q, want) || e != api.OK {
			t.Fatal(p, water, w, l, blows, q, e)
		}
	}
}

// TestMoreWater checks P10.16: more water never makes a plan unsure, and with as much as one may want all turns are left.
func TestMoreWater(t *testing.T) {
	r := rand.New(rand.NewSource(2))
	sure := 0
	for range 1500 {
		p := somePlan(r)
		w := someWheels(r, 4, true)
		l := someTrain(r, w, 1+r.Intn(2))
		var less, more, most []int
		for range p.Turns {
			n := r.Intn(100)
			less, more, most = append(less, n), append(more, n+r.Intn(100)), append(most, 100000)
		}
		a, e := wheel.Paced(p, less, w, l, 20)
		b, f := wheel.Paced(p, more, w, l, 20)
		c, g := wheel.Paced(p, most, w, l, 20)
		if e != api.OK || f != api.OK || g != api.OK || !samePlan(c, p) {
			t.Fatal(p, less, more, w, l, e, f, g)
		}
		for _, q := range []api.Plan{a, b} {
			if e := plan.Check(q); e != api.OK {
				t.Fatal(p, q, e)
			}
		}
		is, _ := plan.Sure(a, nil)
		isMore, _ := plan.Sure(b, nil)
		isMost, _ := plan.Sure(c, nil)
		if is && !isMore || isMore && !isMost {
			t.Fatal(p, less, more, w, l)
		}
		if is {
			sure++
		}
	}
	if sure < 100 {
		t.Error(sure)
	}
}
