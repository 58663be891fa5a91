package wheel_test

import (
	"math/rand"
	"reflect"
	"slices"
	"testing"

	"oilcake/api"
	"oilcake/wheel"
)

// TestLoads checks P10.5: the load at each mark, also where stampers are up across the last one.
func TestLoads(t *testing.T) {
	for _, x := range []struct {
		s         api.Shaft
		set, want []int
	}{
		{exampleShaft(), ints(0, 2, 2), ints(100, 100, 130, 80, 80, 50)},
		{exampleShaft(), ints(0, 0, 0), ints(230, 180, 80, 50, 0, 0)},
		{exampleShaft(), ints(5, 4, 1), ints(180, 50, 0, 0, 130, 180)},
		{shaft(4, stamper(2, 1, 7)), ints(1), ints(0, 7, 0, 7)},
		{shaft(2, stamper(1, 1, 7)), ints(1), ints(0, 7)},
		{shaft(12, stamper(3, 3, 1)), ints(3), ints(1, 1, 0, 1, 1, 1, 0, 1, 1, 1, 0, 1)},
		{shaft(12, stamper(1, 11, 500)), ints(11), ints(500, 500, 500, 500, 500, 500, 500, 500, 500, 500, 0, 500)},
		{shaft(12, stamper(6, 1, 500), stamper(6, 1, 500), stamper(6, 1, 500), stamper(6, 1, 500)), ints(1, 1, 1, 1), ints(0, 2000, 0, 2000, 0, 2000, 0, 2000, 0, 2000, 0, 2000)},
	} {
		if l, e := wheel.Loads(x.s, x.set); !slices.Equal(l, x.want) || e != api.OK {
			t.Error(x.s, x.set, l, e)
		}
	}
	r := rand.New(rand.NewSource(1))
	for range 500 {
		s := someShaft(r, 2+r.Intn(11), 1+r.Intn(4))
		all := settings(s)
		set := all[r.Intn(len(all))]
		want, _ := loads(s, set)
		if l, e := wheel.Loads(s, set); !slices.Equal(l, want) || e != api.OK {
			t.Fatal(s, set, l, e, want)
		}
	}
}

// TestBest checks P10.6: the settings with the least load, and those with the fewest stampers, of several the first ones.
func TestBest(t *testing.T) {
	for _, x := range []struct {
		s      api.Shaft
		best   []int
		load   int
		fewest []int
		crowd  int
		bound  int
	}{
		{exampleShaft(), ints(0, 2, 2), 130, ints(0, 0, 2), 2, 90},
		{shaft(2, stamper(1, 1, 7)), ints(0), 7, ints(0), 1, 4},
		{shaft(2, stamper(1, 1, 7), stamper(1, 1, 8)), ints(0, 1), 8, ints(0, 1), 1, 8},
		{shaft(2, stamper(1, 1, 7), stamper(1, 1, 7), stamper(1, 1, 1)), ints(0, 1, 0), 8, ints(0, 0, 1), 2, 8},
		{shaft(4, stamper(1, 3, 10), stamper(1, 3, 10)), ints(0, 0), 20, ints(0, 0), 2, 15},
		{shaft(4, stamper(1, 2, 10), stamper(2, 1, 10)), ints(0, 0), 20, ints(0, 0), 2, 10},
		{shaft(5, stamper(1, 1, 500), stamper(1, 1, 1)), ints(0, 1), 500, ints(0, 1), 1, 101},
		{shaft(12, stamper(6, 1, 500), stamper(6, 1, 500), stamper(6, 1, 500), stamper(6, 1, 500)), ints(0, 0, 1, 1), 1000, ints(0, 0, 1, 1), 2, 1000},
		{shaft(12, stamper(1, 3, 500), stamper(1, 3, 500), stamper(1, 3, 500), stamper(1, 3, 500)), ints(0, 3, 6, 9), 500, ints(0, 3, 6, 9), 1, 500},
		{shaft(12), nil, 0, nil, 0, 0},
	} {
		l, load, e := wheel.Best(x.s)
		if !slices.Equal(l, x.best) || load != x.load || e != api.OK {
			t.Error(x.s, l, load, e)
		}
		l, crowd, e := wheel.Fewest(x.s)
		if !slices.Equal(l, x.fewest) || crowd != x.crowd || e != api.OK {
			t.Error(x.s, l, crowd, e)
		}
		if n, e := wheel.Bound(x.s); n != x.bound || e != api.OK {
			t.Error(x.s, n, e)
		}
	}
}

// TestBestOfAll checks P10.6, P10.13 and P10.14: of all settings none has less up at once, nor fewer stampers, none that has as much is before it; no load of all is less than the bound, and all loads of each setting are together the same.
func TestBestOfAll(t *testing.T) {
	r := rand.New(rand.NewSource(2))
	for n := range 160 {
		s := someShaft(r, 2+r.Intn(7), r.Intn(4))
		if n < 4 {
			s = someShaft(r, 12, 1+n)
		}
		bound, e := wheel.Bound(s)
		if e != api.OK {
			t.Fatal(s, e)
		}
		var best, fewest []int
		load, crowd, together := -1, -1, -1
		for _, set := range settings(s) {
			l, e := wheel.Loads(s, set)
			if e != api.OK {
				t.Fatal(s, set, e)
			}
			sum := 0
			for _, pounds := range l {
				sum += pounds
			}
			if together < 0 {
				together = sum
			}
			if sum != together || slices.Max(l) < bound {
				t.Fatal(s, set, sum, together, bound)
			}
			if load < 0 || slices.Max(l) < load {
				best, load = set, slices.Max(l)
			}
			if _, up := loads(s, set); crowd < 0 || slices.Max(up) < crowd {
				fewest, crowd = set, slices.Max(up)
			}
		}
		if (bound-1)*s.Marks >= together && bound > 0 || bound*s.Marks < together {
			t.Fatal(s, bound, together)
		}
		l, most, e := wheel.Best(s)
		if !slices.Equal(l, best) || most != load || e != api.OK {
			t.Fatal(s, l, most, e, best, load)
		}
		l, most, e = wheel.Fewest(s)
		if !slices.Equal(l, fewest) || most != crowd || e != api.OK {
			t.Fatal(s, l, most, e, fewest, crowd)
		}
	}
}

// TestTurned checks P10.7 and P10.15: a setting that is turned on, or backwards, has the same loads, as many marks on.
func TestTurned(t *testing.T) {
	for _, x := range []struct {
		by   int
		want []int
	}{
		{0, ints(0, 2, 2)}, {1, ints(1, 3, 0)}, {-1, ints(5, 1, 1)}, {-3, ints(3, 5, 2)}, {6, ints(0, 2, 2)}, {12, ints(0, 2, 2)}, {-12, ints(0, 2, 2)}, {11, ints(5, 1, 1)}, {-11, ints(1, 3, 0)},
	} {
		if l, e := wheel.Turned(exampleShaft(), ints(0, 2, 2), x.by); !slices.Equal(l, x.want) || e != api.OK {
			t.Error(x.by, l, e)
		}
	}
	r := rand.New(rand.NewSource(3))
	for range 300 {
		s := someShaft(r, 2+r.Intn(11), r.Intn(5))
		all := settings(s)
		set := all[r.Intn(len(all))]
		before, _ := wheel.Loads(s, set)
		for by := -12; by <= 12; by++ {
			turned, e := wheel.Turned(s, set, by)
			if e != api.OK {
				t.Fatal(s, set, by, e)
			}
			after, e := wheel.Loads(s, turned)
			if e != api.OK {
				t.Fatal(s, set, by, turned, e)
			}
			for mark, load := range before {
				if on := (mark + by + 12*s.Marks) % s.Marks; after[on] != load {
					t.Fatal(s, set, by, turned, before, after)
				}
			}
		}
	}
}

// TestAdd checks P10.7: a stamper more is the last one, and up to four may be.
func TestAdd(t *testing.T) {
	s, e := wheel.Add(exampleShaft(), stamper(3, 1, 500))
	if want := shaft(6, stamper(1, 2, 100), stamper(1, 3, 80), stamper(2, 1, 50), stamper(3, 1, 500)); !reflect.DeepEqual(s, want) || e != api.OK {
		t.Error(s, e)
	}
	if s, e := wheel.Add(s, stamper(3, 1, 500)); e != api.ErrFull || !reflect.DeepEqual(s, api.Shaft{}) {
		t.Error(s, e)
	}
	if s, e := wheel.Add(s, api.Stamper{}); e != api.ErrFull || !reflect.DeepEqual(s, api.Shaft{}) {
		t.Error(s, e)
	}
	s, e = wheel.Add(shaft(12), stamper(6, 1, 1))
	if want := shaft(12, stamper(6, 1, 1)); !reflect.DeepEqual(s, want) || e != api.OK {
		t.Error(s, e)
	}
}

// TestStamperMore checks P10.15: a stamper more never lowers the best load, nor the fewest that are up, nor the bound.
func TestStamperMore(t *testing.T) {
	r := rand.New(rand.NewSource(4))
	for range 150 {
		s := someShaft(r, 2+r.Intn(7), r.Intn(4))
		more, e := wheel.Add(s, someShaft(r, s.Marks, 1).Stampers[0])
		if e != api.OK {
			t.Fatal(s, e)
		}
		_, load, _ := wheel.Best(s)
		_, crowd, _ := wheel.Fewest(s)
		bound, _ := wheel.Bound(s)
		_, loadMore, e := wheel.Best(more)
		_, crowdMore, f := wheel.Fewest(more)
		boundMore, g := wheel.Bound(more)
		if loadMore < load || crowdMore < crowd || boundMore < bound || e != api.OK || f != api.OK || g != api.OK {
			t.Fatal(s, more, load, loadMore, crowd, crowdMore, bound, boundMore)
		}
	}
}
