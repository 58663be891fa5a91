package can_test

import (
	"math/rand"
	"slices"
	"testing"

	"oilcake/api"
	"oilcake/can"
)

// TestExamples checks P8.3 to P8.5 by the chapter's examples.
func TestExamples(t *testing.T) {
	even := empty(20, 4, 6)
	for _, x := range []struct {
		c             api.Cans
		many, measure int
		made          []int
	}{
		{example(), 16, 1, ints(0, 1, 2, 3, 4, 5)}, {even, 10, 2, ints(0, 2, 4, 6)}, {empty(0, 4, 6), 1, 2, ints(0)}, {cans(0, ints(4, 6), ints(1, 0)), 3, 1, ints(0, 1)}, {cans(5, ints(4), ints(2)), 3, 2, ints(0, 2, 4)}, {cans(1, ints(4), ints(2)), 2, 2, ints(0, 2)},
		{cans(600, ints(12, 18), ints(12, 6)), 3, 6, ints(0, 6, 12, 18)}, {empty(3, 20, 20, 20), 1, 20, ints(0)}, {empty(600, 1), 2, 1, ints(0, 1)}, {cans(599, ints(20), ints(7)), 2, 1, ints(7, 20)},
	} {
		n, e := can.Many(x.c)
		l, f := can.Made(x.c)
		d, g := can.Measure(x.c)
		if n != x.many || e != api.OK || !slices.Equal(l, x.made) || f != api.OK || d != x.measure || g != api.OK {
			t.Error(x, n, e, l, f, d, g)
		}
	}
	four, one := pours(0, 2, 2, 1, 1, 0, 2, 1, 0, 2, 2, 1), pours(0, 1, 1, 2, 0, 1, 1, 2)
	low := empty(7, 3, 5)
	for i, x := range []struct {
		check func() ([]api.Pouring, int, api.Errno)
		list  []api.Pouring
		back  int
		e     api.Errno
	}{
		{func() ([]api.Pouring, int, api.Errno) { return can.Least(example(), 4) }, four, 3, api.OK},
		{func() ([]api.Pouring, int, api.Errno) { return can.Least(example(), 1) }, one, 0, api.OK},
		{func() ([]api.Pouring, int, api.Errno) { return can.Total(example(), 6) }, pours(0, 1, 1, 2, 0, 1), 0, api.OK},
		{func() ([]api.Pouring, int, api.Errno) { return can.Total(example(), 7) }, pours(0, 2, 2, 1, 1, 0, 2, 1, 0, 2), 3, api.OK},
		{func() ([]api.Pouring, int, api.Errno) { return can.Both(example(), ints(1, 5)) }, one, 0, api.OK},
		{func() ([]api.Pouring, int, api.Errno) { return can.Least(even, 3) }, nil, 0, api.ErrNone},
		{func() ([]api.Pouring, int, api.Errno) { return can.Least(low, 4) }, four, 3, api.OK},
		{func() ([]api.Pouring, int, api.Errno) { return can.Total(example(), 8) }, pours(0, 1, 0, 2), 0, api.OK},
		{func() ([]api.Pouring, int, api.Errno) { return can.Total(example(), 0) }, nil, 0, api.OK},
		{func() ([]api.Pouring, int, api.Errno) { return can.Both(example(), ints(1, 1)) }, nil, 0, api.ErrNone},
		{func() ([]api.Pouring, int, api.Errno) { return can.Least(example(), 6) }, nil, 0, api.ErrNone},
		{func() ([]api.Pouring, int, api.Errno) { return can.Least(empty(600, 20), 20) }, pours(0, 1), 0, api.OK},
		// By way of the first can, or of the second one: the first list counts.
		{func() ([]api.Pouring, int, api.Errno) { return can.Least(empty(20, 5, 5, 3), 2) }, pours(0, 1, 1, 3), 0, api.OK},
		// Just as few pourings, but nothing is poured back.
		{func() ([]api.Pouring, int, api.Errno) { return can.Least(cans(9, ints(3, 5), ints(3, 5)), 0) }, pours(1, 0), 3, api.OK},
		{func() ([]api.Pouring, int, api.Errno) { return can.Least(cans(9, ints(3, 6), ints(3, 3)), 0) }, pours(1, 2), 0, api.OK},
		{func() ([]api.Pouring, int, api.Errno) { return can.Least(cans(9, ints(9, 2), ints(9, 2)), 0) }, pours(2, 0), 2, api.OK},
	} {
		if l, back, e := x.check(); !slices.Equal(l, x.list) || back != x.back || e != x.e {
			t.Error(i, l, back, e)
		}
	}
	if n, many, e := can.Far(example()); n != 4 || many != 6 || e != api.OK {
		t.Error(n, many, e)
	}
	if size, many, e := can.Help(example(), 4); size != 1 || many != 2 || e != api.OK {
		t.Error(size, many, e)
	}
}

// TestReach checks P8.3 and P8.8: just that is told which can be in the cans, and what cans hold of it.
func TestReach(t *testing.T) {
	some(11, 250, 12, func(r *rand.Rand, c api.Cans) {
		all := ways(c)
		has := map[int]bool{}
		for k := range all {
			for i := range c.Sizes {
				has[k[i]] = true
			}
		}
		var want []int
		for n := range 21 {
			if has[n] {
				want = append(want, n)
			}
		}
		n, e := can.Many(c)
		l, f := can.Made(c)
		if n != len(all) || e != api.OK || !slices.Equal(l, want) || f != api.OK {
			t.Fatal(c, n, e, len(all), l, f, want)
		}
	})
}

// TestMade checks P8.8 and P8.10: whatever is poured, all that a can holds is among what is told, and is a multiple of the measure; and all that is told comes about.
func TestMade(t *testing.T) {
	some(12, 300, 20, func(r *rand.Rand, c api.Cans) {
		made, e := can.Made(c)
		n, f := can.Measure(c)
		if e != api.OK || f != api.OK || n < 1 {
			t.Fatal(c, e, f, n)
		}
		d, _ := play(t, c, stroll(r, c, 40))
		for _, pints := range d.In {
			if !slices.Contains(made, pints) || pints%n != 0 {
				t.Fatal(c, d, made, n)
			}
		}
		for pints := range 21 {
			l, _, e := can.Least(c, pints)
			if !slices.Contains(made, pints) {
				if e != api.ErrNone {
					t.Fatal(c, pints, l, e, made)
				}
				continue
			}
			if d, _ := play(t, c, l); e != api.OK || !holdsOne(pints)(d) || pints%n != 0 {
				t.Fatal(c, pints, l, e, d)
			}
		}
	})
}

// TestMeasure checks P8.3: the measure divides all sizes and all that is in the cans, and no greater number does.
func TestMeasure(t *testing.T) {
	count := 0
	some(13, 3000, 20, func(r *rand.Rand, c api.Cans) {
		if k := 1 + r.Intn(6); r.Intn(2) == 0 {
			for i := range c.Sizes {
				c.Sizes[i] = max(k, c.Sizes[i]/k*k)
				c.In[i] = c.In[i] / k * k
			}
		}
		want := 0
		for n := 1; n <= 20; n++ {
			if !slices.ContainsFunc(slices.Concat(c.Sizes, c.In), func(x int) bool { return x%n != 0 }) {
				want = n
			}
		}
		if n, e := can.Measure(c); n != want || e != api.OK {
			t.Fatal(c, n, e, want)
		}
		if want > 1 && len(c.Sizes) > 1 {
			count++
		}
	})
	if count < 500 {
		t.Error(count)
	}
}

// checkAll checks all that is told of cans against what should be told; with some pourings at most, if not all ways are known.
func checkAll(t *testing.T, c api.Cans, l []asked, all map[amounts]way, most int) {
	t.Helper()
	for _, q := range l {
		want, is := pick(all, q.is)
		list, back, e := q.check()
		if !is && e == api.OK && len(list) > most {
			continue
		}
		if is && (!slices.Equal(list, want.list) || back != want.back || e != api.OK) {
			t.Fatal(q.name, c, list, back, e, want)
		}
		if !is && (len(list) > 0 || back != 0 || e != api.ErrNone) {
			t.Fatal(q.name, c, list, back, e)
		}
	}
}

// TestFewestShort checks P8.4 and P8.9: each list of a few pourings is tried, and of those that lead to what is asked for the one is told that comes first.
func TestFewestShort(t *testing.T) {
	some(21, 60, 9, func(r *rand.Rand, c api.Cans) {
		most := ints(8, 6, 4)[len(c.Sizes)-1]
		checkAll(t, c, questions(r, c, 100), short(c, most), most)
	})
}

// TestFewestAll checks P8.4 and P8.9 with all that can be in cans of any sizes.
func TestFewestAll(t *testing.T) {
	some(22, 60, 20, func(r *rand.Rand, c api.Cans) {
		checkAll(t, c, questions(r, c, 60), ways(c), 0)
	})
	some(23, 150, 8, func(r *rand.Rand, c api.Cans) {
		checkAll(t, c, questions(r, c, 60), ways(c), 0)
	})
}

// TestFewestPlayed checks P8.4, P8.8 and P8.11: the pourings that are told lead to what is asked for, and pour back what is told.
func TestFewestPlayed(t *testing.T) {
	long := 0
	some(24, 150, 20, func(r *rand.Rand, c api.Cans) {
		for _, q := range questions(r, c, 10) {
			l, back, e := q.check()
			if e != api.OK {
				continue
			}
			d, all := play(t, c, l)
			if !q.is(d) || all != back || oil(d) != oil(c) {
				t.Fatal(q.name, c, l, back, d, all)
			}
			if len(l) > 20 {
				long++
			}
		}
	})
	if long < 20 {
		t.Error(long)
	}
}

// TestBoth checks P8.4: wanting more of the cans never needs fewer pourings, and what is wanted of none needs no pourings.
func TestBoth(t *testing.T) {
	some(25, 200, 12, func(r *rand.Rand, c api.Cans) {
		all := wishes(c)
		want := all[r.Intn(len(all))]
		l, _, e := can.Both(c, want)
		for i := range want {
			less := slices.Clone(want)
			less[i] = -1
			k, _, f := can.Both(c, less)
			if e == api.OK && (f != api.OK || len(k) > len(l)) {
				t.Fatal(c, want, l, less, k, f)
			}
		}
		none := slices.Repeat(ints(-1), len(want))
		if k, back, f := can.Both(c, none); len(k) > 0 || back != 0 || f != api.OK {
			t.Fatal(c, k, back, f)
		}
	})
}

// TestFar checks P8.5 and P8.13: of all amounts none takes more pourings than the one that is told, and none that is less takes as many.
func TestFar(t *testing.T) {
	some(31, 200, 20, func(r *rand.Rand, c api.Cans) {
		made, _ := can.Made(c)
		want, most := 0, -1
		for _, n := range made {
			if l, _, e := can.Least(c, n); e != api.OK {
				t.Fatal(c, n, e)
			} else if len(l) > most {
				want, most = n, len(l)
			}
		}
		if n, many, e := can.Far(c); n != want || many != most || e != api.OK {
			t.Fatal(c, n, many, e, want, most)
		}
	})
	for _, x := range []struct {
		c           api.Cans
		pints, many int
	}{{empty(0, 7), 0, 0}, {empty(9, 7), 7, 1}, {cans(9, ints(7), ints(7)), 0, 1}, {cans(9, ints(7), ints(4)), 0, 1}, {cans(600, ints(7), ints(4)), 7, 1}, {empty(20, 5, 3), 4, 6}, {empty(20, 4, 9), 2, 10}} {
		if n, many, e := can.Far(x.c); n != x.pints || many != x.many || e != api.OK {
			t.Error(x, n, many, e)
		}
	}
}

// TestHelp checks P8.5 and P8.13: of all cans more, but of that size, the one is told with which the fewest pourings are enough, the smallest of several.
func TestHelp(t *testing.T) {
	counts := map[api.Errno]int{}
	r := rand.New(rand.NewSource(32))
	for range 120 {
		c := random(r, 1+r.Intn(2), 20)
		pints := r.Intn(21)
		want, most := 0, -1
		for size := 1; size <= 20; size++ {
			d, e := can.Add(c, size)
			if e != api.OK {
				t.Fatal(c, size, e)
			}
			if l, _, e := can.Least(d, pints); size != pints && e == api.OK && (most < 0 || len(l) < most) {
				want, most = size, len(l)
			}
		}
		size, many, e := can.Help(c, pints)
		counts[e]++
		if most < 0 && (size != 0 || many != 0 || e != api.ErrNone) || most >= 0 && (size != want || many != most || e != api.OK) {
			t.Fatal(c, pints, size, many, e, want, most)
		}
	}
	if counts[api.OK] < 50 || counts[api.ErrNone] < 3 {
		t.Error(counts)
	}
	for _, x := range []struct {
		c                 api.Cans
		pints, size, many int
	}{{example(), 0, 1, 0}, {cans(9, ints(7), ints(7)), 7, 1, 0}, {cans(9, ints(7), ints(1)), 1, 2, 0}, {empty(20, 3), 1, 2, 2}, {empty(20, 5), 5, 1, 1}, {empty(40, 5), 10, 15, 2}, {empty(3, 3, 5), 2, 1, 2}} {
		if size, many, e := can.Help(x.c, x.pints); size != x.size || many != x.many || e != api.OK {
			t.Error(x, size, many, e)
		}
	}
}

// TestMoreCans checks P8.13: with a can more, of any size, no amount needs more pourings.
func TestMoreCans(t *testing.T) {
	r := rand.New(rand.NewSource(33))
	for n := range 100 {
		c := random(r, 1+r.Intn(2), 20)
		d, e := can.Add(c, 1+r.Intn(20))
		if e != api.OK {
			t.Fatal(c, e)
		}
		for pints := range 21 {
			l, _, e := can.Least(c, pints)
			if k, _, f := can.Least(d, pints); e == api.OK && (f != api.OK || len(k) > len(l)) {
				t.Fatal(c, d, pints, l, k, f)
			}
			if pints%7 != n%7 {
				continue
			}
			if _, many, f := can.Help(c, pints); e == api.OK && (f != api.OK || many > len(l)) {
				t.Fatal(c, pints, l, many, f)
			}
		}
	}
}

// TestAdd checks P8.6: the can is the last one, and empty; all else is as it was.
func TestAdd(t *testing.T) {
	r := rand.New(rand.NewSource(34))
	for range 200 {
		c := random(r, 1+r.Intn(2), 20)
		for size := 1; size <= 20; size++ {
			want := cans(c.Stock, append(slices.Clone(c.Sizes), size), append(slices.Clone(c.In), 0))
			if d, e := can.Add(c, size); !same(d, want) || e != api.OK || can.Check(d) != api.OK {
				t.Fatal(c, size, d, e)
			}
		}
	}
}
