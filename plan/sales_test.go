package plan_test

import (
	"math/rand"
	"slices"
	"testing"

	"oilcake/api"
	"oilcake/plan"
	"oilcake/press"
)

// TestSell checks P4.7: a sale more is in its place by Id, and all else is as it was.
func TestSell(t *testing.T) {
	p := with(example(), func(p *api.Plan) {
		p.Sales = []api.Sale{sale(3, cold, 2, 11), sale(5, hot, 1, 10), sale(9, cold, 1, 12)}
	})
	for place, ids := range [][]int{{1, 2}, {4}, {6, 7, 8}, {10, 9999}} {
		for _, id := range ids {
			x := sale(id, hot, 6, 12)
			want := with(p, func(p *api.Plan) { p.Sales = slices.Insert(p.Sales, place, x) })
			if q, e := plan.Sell(p, x); !same(q, want) || e != api.OK {
				t.Error(x, q, e)
			}
			if q, e := plan.Refuse(want, id); !same(q, p) || e != api.OK {
				t.Error(id, q, e)
			}
		}
	}
	for _, id := range []int{3, 5, 9, 0, -1, 10000} {
		if q, e := plan.Sell(p, sale(id, hot, 1, 12)); !same(q, api.Plan{}) || e != api.ErrSale {
			t.Error(id, q, e)
		}
	}
	p.Sales = many(7)
	q, e := plan.Sell(p, sale(5, hot, 1, 12))
	if len(q.Sales) != 8 || e != api.OK {
		t.Error(q, e)
	}
	if r, e := plan.Sell(q, sale(6, hot, 1, 12)); !same(r, api.Plan{}) || e != api.ErrFull {
		t.Error(r, e)
	}
}

// TestRefuse checks P4.7: just the one sale goes.
func TestRefuse(t *testing.T) {
	p := with(example(), func(p *api.Plan) { p.Sales = many(8) })
	for id := range 35 {
		want := with(p, func(p *api.Plan) {
			p.Sales = slices.DeleteFunc(p.Sales, func(x api.Sale) bool { return x.Id == id })
		})
		e := api.OK
		if len(want.Sales) == 8 {
			want, e = api.Plan{}, api.ErrNone
		}
		if q, f := plan.Refuse(p, id); !same(q, want) || f != e {
			t.Error(id, q, f)
		}
	}
}

// TestLand checks P4.7: an arrival more is behind those whose Day is not later, and all else is as it was.
func TestLand(t *testing.T) {
	p := with(example(), func(p *api.Plan) {
		p.Arrivals = []api.Arrival{arrival(10, 1), arrival(10, 2), arrival(12, 3), arrival(12, 4)}
	})
	for _, x := range []struct{ day, place int }{{10, 2}, {11, 2}, {12, 4}} {
		a := arrival(x.day, 30)
		want := with(p, func(p *api.Plan) { p.Arrivals = slices.Insert(p.Arrivals, x.place, a) })
		if q, e := plan.Land(p, a); !same(q, want) || e != api.OK {
			t.Error(x, q, e)
		}
	}
	q, _ := plan.Land(p, arrival(11, 9))
	r, e := plan.Land(q, arrival(11, 8))
	if want := []api.Arrival{arrival(10, 1), arrival(10, 2), arrival(11, 9), arrival(11, 8), arrival(12, 3), arrival(12, 4)}; !slices.Equal(r.Arrivals, want) || e != api.OK {
		t.Error(r, e)
	}
	if s, e := plan.Land(r, arrival(11, 8)); !same(s, api.Plan{}) || e != api.ErrFull {
		t.Error(s, e)
	}
	for _, x := range []api.Arrival{arrival(9, 1), arrival(13, 1), arrival(11, 0), arrival(11, 31), arrival(11, -1)} {
		if s, e := plan.Land(p, x); !same(s, api.Plan{}) || e != api.ErrArrival {
			t.Error(x, s, e)
		}
	}
}

// TestTaken checks P4.8 and P4.16: each pressing on a day of the plan takes one turn of this day.
func TestTaken(t *testing.T) {
	for i, x := range []struct {
		q     api.Press
		turns []int
	}{
		{api.Press{}, []int{2, 2, 1}},
		{pressed(9, 10, 13), []int{1, 2, 1}},
		{pressed(10, 10, 12), []int{0, 2, 0}},
		{pressed(10, 11, 11), []int{1, 0, 1}},
		{pressed(1, 2, 3), []int{2, 2, 1}},
		{pressed(13, 3652, 3652), []int{2, 2, 1}},
		{oiled(span(0, 0), 10, 10, 11, 11, 12), []int{0, 0, 0}},
		{pressed(10, 10, 10), nil},
		{pressed(9, 12, 12), nil},
		{oiled(span(0, 0), 10, 10, 11, 11, 11), nil},
	} {
		want, e := with(example(), func(p *api.Plan) { p.Turns = x.turns }), api.OK
		if x.turns == nil {
			want, e = api.Plan{}, api.ErrFull
		}
		if p, f := plan.Taken(example(), x.q); !same(p, want) || f != e {
			t.Error(i, p, f)
		}
	}
	// a press without a truth takes its turns, too
	q := pressed(10, 10, 12)
	q.Weighings[12].Ounces = span(10, 20)
	if p, e := plan.Taken(example(), q); !slices.Equal(p.Turns, []int{0, 2, 0}) || e != api.OK {
		t.Error(p, e)
	}
}

// sold are the sales that are left when lots of cold oil are sold one by one, each one to the first sale that wants it.
func sold(p api.Plan, lots int) []api.Sale {
	l := slices.Clone(p.Sales)
	for range min(lots, 100) {
		for _, x := range standing(p) {
			i := slices.IndexFunc(l, func(y api.Sale) bool { return y.Id == x.Id })
			if x.Sort == cold && l[i].Lots > 0 {
				l[i].Lots--
				break
			}
		}
	}
	return slices.DeleteFunc(l, func(x api.Sale) bool { return x.Lots == 0 })
}

// TestHad checks P4.8 and P4.16: cold oil that there is for sure, in full lots, is sold just once, to sales of cold oil as they stand.
func TestHad(t *testing.T) {
	for i, x := range []struct {
		ounces api.Span
		want   []api.Sale
	}{
		{span(0, 1000000), []api.Sale{sale(1, cold, 2, 12), sale(2, hot, 1, 10), sale(3, cold, 3, 11), sale(4, cold, 1, 11)}},
		{span(399, 1000000), []api.Sale{sale(1, cold, 2, 12), sale(2, hot, 1, 10), sale(3, cold, 3, 11), sale(4, cold, 1, 11)}},
		{span(400, 400), []api.Sale{sale(1, cold, 2, 12), sale(2, hot, 1, 10), sale(3, cold, 2, 11), sale(4, cold, 1, 11)}},
		{span(1199, 1300), []api.Sale{sale(1, cold, 2, 12), sale(2, hot, 1, 10), sale(3, cold, 1, 11), sale(4, cold, 1, 11)}},
		{span(1200, 9999), []api.Sale{sale(1, cold, 2, 12), sale(2, hot, 1, 10), sale(4, cold, 1, 11)}},
		{span(1600, 1999), []api.Sale{sale(1, cold, 2, 12), sale(2, hot, 1, 10)}},
		{span(2000, 2000), []api.Sale{sale(1, cold, 1, 12), sale(2, hot, 1, 10)}},
		{span(2400, 2400), []api.Sale{sale(2, hot, 1, 10)}},
		{span(1000000, 1000000), []api.Sale{sale(2, hot, 1, 10)}},
	} {
		p := with(example(), func(p *api.Plan) {
			p.Sales = []api.Sale{sale(1, cold, 2, 12), sale(2, hot, 1, 10), sale(3, cold, 3, 11), sale(4, cold, 1, 11)}
		})
		want := with(p, func(p *api.Plan) { p.Sales = x.want })
		if q, e := plan.Had(p, oiled(x.ounces, 3)); !same(q, want) || e != api.OK {
			t.Error(i, q, e)
		}
	}
	small(22, 500, func(r *rand.Rand, p api.Plan) {
		lo := r.Intn(3000)
		q := oiled(span(lo, lo+r.Intn(3000)), 1, 2, 3)
		s, _ := press.All(q, api.WeighOil)
		want := with(p, func(p *api.Plan) { p.Sales = sold(*p, s.Lo/400) })
		if had, e := plan.Had(p, q); !same(had, want) || e != api.OK || plan.Check(had) != api.OK {
			t.Fatal(p, q, had, e, want)
		}
	})
}
