package round_test

import (
	"fmt"
	"math/rand"
	"slices"
	"testing"

	"oilcake/api"
	"oilcake/round"
)

// TestEverExamples checks P7.2 to P7.4 by the chapter's examples, and by others that can be seen at once.
func TestEverExamples(t *testing.T) {
	if p, e := round.Share(example()); p != (api.Part{Num: 1, Den: 1}) || e != api.OK {
		t.Error(p, e)
	}
	if l, e := round.Today(example()); !slices.Equal(l, ids(1)) || e != api.OK {
		t.Error(l, e)
	}
	if l, e := round.Days(example(), 3); !sameDays(l, days(ids(1), ids(2), ids(1))) || e != api.OK {
		t.Error(l, e)
	}
	if k, l, e := round.Round(example()); !sameDays(k, days(ids(1), ids(2))) || !sameDays(l, days(ids(1), ids(3), ids(1), ids(2))) || e != api.OK {
		t.Error(k, l, e)
	}
	if l, e := round.Last(lost()); !sameDays(l, days(ids(3))) || e != api.OK {
		t.Error(l, e)
	}
	for _, x := range []struct {
		w    api.Watch
		want bool
	}{
		{example(), true}, {lost(), false}, {watch(0), true}, {fresh(0, 6), false}, {fresh(1, 1), true}, {fresh(1, 1, 6), false},
		{fresh(1, 2, 2), true}, {watch(1, rick(1, 2, 1), rick(2, 2, 1)), false}, {fresh(1, 3, 3, 3), true}, {fresh(1, 4, 4, 4, 4), true},
		{fresh(1, 2, 3, 6), false}, {fresh(1, 2, 3), true}, {fresh(1, 2, 4, 4), true}, {fresh(1, 3, 3, 4), true}, {fresh(1, 3, 3, 3, 6), false}, {fresh(1, 3, 4, 5, 6), false}, {fresh(2, 1, 2, 3, 6), false}, {fresh(2, 1, 2, 4, 4), true},
		{fresh(3, 1, 1, 1), true}, {fresh(3, 1, 1, 1, 6), false}, {fresh(3, 1, 1, 2, 2), true}, {watch(3, rick(1, 2, 1), rick(2, 3, 2), rick(3, 4, 3), rick(4, 5, 4)), false},
	} {
		if is, e := round.Can(x.w); is != x.want || e != api.OK {
			t.Error(x.w, is, e)
		}
	}
	for _, x := range []struct {
		w    api.Watch
		want [][]int
	}{
		{fresh(0, 1), nil}, {fresh(0, 6), days(nil, nil, nil, nil, nil)}, {fresh(1, 1, 6), days(ids(1), ids(1), ids(1), ids(1), ids(1))},
		{fresh(3, 1, 1, 1, 3), days(ids(1, 2, 3), ids(1, 2, 3))}, {watch(1, rick(4, 2, 1), rick(5, 2, 1)), nil},
	} {
		if l, e := round.Last(x.w); !sameDays(l, x.want) || e != api.OK {
			t.Error(x.w, l, e)
		}
	}
}

// TestIds checks P7.3 and P7.4: lists are of Ids, not of places, and those of one hand come ahead of those of two.
func TestIds(t *testing.T) {
	w := watch(2, rick(20, 1, 0), rick(300, 2, 0), rick(4000, 2, 0))
	if k, l, e := round.Round(w); !sameDays(k, days(ids(20, 300))) || !sameDays(l, days(ids(20, 4000), ids(20, 300))) || e != api.OK {
		t.Error(k, l, e)
	}
	v := watch(2, rick(7, 2, 1), rick(8, 2, 1), rick(9, 3, 1))
	if l, e := round.Today(v); !slices.Equal(l, ids(7, 8)) || e != api.OK {
		t.Error(l, e)
	}
	u := watch(1, rick(70, 3, 0), rick(80, 4, 3), rick(90, 5, 3))
	if l, e := round.Days(u, 3); !sameDays(l, days(ids(80), ids(90), ids(70))) || e != api.OK {
		t.Error(l, e)
	}
	s := watch(1, rick(70, 2, 0), rick(80, 4, 2), rick(90, 6, 5))
	if l, e := round.Last(s); !sameDays(l, days(ids(90))) || e != api.OK {
		t.Error(l, e)
	}
}

// TestShare checks P7.2: the fraction is in lowest terms, whatever the ricks are.
func TestShare(t *testing.T) {
	for _, x := range []struct {
		every []int
		want  api.Part
	}{
		{nil, api.Part{Den: 1}}, {[]int{1}, api.Part{Num: 1, Den: 1}}, {[]int{6}, api.Part{Num: 1, Den: 6}}, {[]int{6, 3}, api.Part{Num: 1, Den: 2}}, {[]int{2, 3, 6}, api.Part{Num: 1, Den: 1}},
		{[]int{3, 4, 5, 6}, api.Part{Num: 19, Den: 20}}, {[]int{4, 5, 6}, api.Part{Num: 37, Den: 60}}, {[]int{1, 1, 1, 1}, api.Part{Num: 4, Den: 1}}, {[]int{4, 4}, api.Part{Num: 1, Den: 2}}, {[]int{2, 5, 2, 5}, api.Part{Num: 7, Den: 5}},
	} {
		if p, e := round.Share(fresh(0, x.every...)); p != x.want || e != api.OK {
			t.Error(x, p, e)
		}
	}
	small(1, 500, func(r *rand.Rand, w api.Watch) {
		turns := 0
		for _, x := range w.Ricks {
			turns += 60 / x.Every
		}
		p, e := round.Share(w)
		if e != api.OK || p.Den < 1 || p.Num*60 != turns*p.Den {
			t.Fatal(w, p, e, turns)
		}
		for n := 2; n <= 60; n++ {
			if p.Num%n == 0 && p.Den%n == 0 {
				t.Fatal(w, p)
			}
		}
	})
}

// both calls back with small watches, and with tight ones.
func both(seed int64, count int, f func(r *rand.Rand, w api.Watch)) {
	small(seed, count, f)
	tight(seed+1, count/3, f)
}

// TestEverAll checks P7.2, P7.3, P7.4 and P7.10: by all that can be after one day, after two, and so on, it is told whether it can go on for ever, what is to be turned then, and the first of the longest days otherwise.
func TestEverAll(t *testing.T) {
	counts := map[string]int{}
	know := knower()
	both(11, 1200, func(r *rand.Rand, w api.Watch) {
		if n := r.Intn(2); n < w.Hands {
			w.Hands -= n
		}
		n := know(w)
		is := can(t, w)
		if is != (n == forEver) {
			t.Fatal(w, is, n)
		}
		l, e := round.Today(w)
		last, f := round.Last(w)
		if is {
			want := best(w, forEver, know)
			if !slices.Equal(l, want) || e != api.OK || len(last) > 0 || f != api.ErrNone {
				t.Fatal(w, l, e, want, last, f)
			}
			counts[map[bool]string{true: "turns", false: "rests"}[len(want) > 0]]++
			return
		}
		if len(l) > 0 || e != api.ErrBad || len(last) != n || f != api.OK {
			t.Fatal(w, l, e, last, f, n)
		}
		v := w
		for i, x := range last {
			if want := best(v, n-i-1, know); !slices.Equal(x, want) {
				t.Fatal(w, last, i, want)
			}
			v, _ = evening(v, x)
		}
		if n > 2 {
			counts["long"]++
		}
	})
	for _, name := range []string{"turns", "rests", "long"} {
		if counts[name] < 50 {
			t.Error(counts)
		}
	}
}

// TestPlan checks P7.3 and P7.8: on the days of the plan none becomes hot, after each of them it can go on for ever, and each of them is what is to be turned then; fewer days begin them.
func TestPlan(t *testing.T) {
	count := 0
	both(21, 240, func(r *rand.Rand, w api.Watch) {
		if !can(t, w) {
			return
		}
		l, e := round.Days(w, 60)
		if e != api.OK || len(l) != 60 {
			t.Fatal(w, l, e)
		}
		for _, n := range []int{0, 1, 2, 7, 59} {
			if k, e := round.Days(w, n); !sameDays(k, l[:n]) || e != api.OK {
				t.Fatal(w, n, k, e, l)
			}
		}
		v := w
		for i, x := range l {
			if today, e := round.Today(v); !slices.Equal(today, x) || e != api.OK {
				t.Fatal(w, i, today, e, x)
			}
			next, hot := evening(v, x)
			if len(hot) > 0 || !slices.ContainsFunc(lists(v), func(k []int) bool { return slices.Equal(k, x) }) || !can(t, next) {
				t.Fatal(w, i, x, hot)
			}
			v = next
		}
		count++
	})
	if count < 100 {
		t.Error(count)
	}
}

// TestRound checks P7.3 and P7.9: the lead and the round are the first days of the plan; behind them the ricks have waited as at the beginning of the round, and never so before.
func TestRound(t *testing.T) {
	leads, long := 0, 0
	both(31, 500, func(r *rand.Rand, w api.Watch) {
		lead, again, e := round.Round(w)
		if !can(t, w) {
			if len(lead) > 0 || len(again) > 0 || e != api.ErrBad {
				t.Fatal(w, lead, again, e)
			}
			return
		}
		if e != api.OK || len(again) == 0 {
			t.Fatal(w, lead, again, e)
		}
		all := slices.Concat(lead, again)
		first := min(60, len(all))
		if l, e := round.Days(w, first); !sameDays(l, all[:first]) || e != api.OK {
			t.Fatal(w, l, e, all)
		}
		seen := map[string]int{}
		v := w
		for i, x := range all {
			if at, is := seen[fmt.Sprint(v.Ricks)]; is {
				t.Fatal(w, lead, again, i, at)
			}
			seen[fmt.Sprint(v.Ricks)] = i
			next, hot := evening(v, x)
			if today, _ := round.Today(v); len(hot) > 0 || !slices.Equal(today, x) {
				t.Fatal(w, lead, again, i, hot)
			}
			v = next
		}
		if at, is := seen[fmt.Sprint(v.Ricks)]; !is || at != len(lead) {
			t.Fatal(w, lead, again, at, is)
		}
		if len(lead) > 0 {
			leads++
		}
		if len(again) > 4 {
			long++
		}
	})
	if leads < 100 || long < 50 {
		t.Error(leads, long)
	}
}

// longest goes through all lists of days on which no rick becomes hot, and returns the first of the longest ones; not ok if there are too many of them.
func longest(w api.Watch) (best [][]int, ok bool) {
	left := 20000
	var try func(w api.Watch, l [][]int)
	try = func(w api.Watch, l [][]int) {
		if left--; left < 0 {
			return
		}
		if len(l) > len(best) || len(l) == len(best) && slices.CompareFunc(l, best, before) < 0 {
			best = slices.Clone(l)
		}
		all := lists(w)
		slices.Reverse(all) // the first ones last, so that what is told does not come from the order in which they are tried
		for _, x := range all {
			if v, hot := evening(w, x); len(hot) == 0 {
				try(v, append(l, x))
			}
		}
	}
	try(w, nil)
	return best, left >= 0
}

// TestLast checks P7.4 and P7.10: of all lists of days none is longer, and of those that are as long none is before it.
func TestLast(t *testing.T) {
	count := 0
	both(41, 2400, func(r *rand.Rand, w api.Watch) {
		if n, e := round.Fewest(w); e == api.OK && n > 0 {
			w.Hands = n - 1
		}
		if can(t, w) {
			return
		}
		want, ok := longest(w)
		if !ok {
			return
		}
		if l, e := round.Last(w); !sameDays(l, want) || e != api.OK {
			t.Fatal(w, l, e, want)
		}
		if len(want) > 4 {
			count++
		}
	})
	if count < 50 {
		t.Error(count)
	}
}

// TestBetter checks P7.11 and P7.12: more hands, a rick less, one that is less moist, or one that has waited less, never make it worse; and if it can go on, the share is at most the hands.
func TestBetter(t *testing.T) {
	counts := map[string]int{}
	both(51, 400, func(r *rand.Rand, w api.Watch) {
		if p, _ := round.Share(w); can(t, w) && p.Num > w.Hands*p.Den {
			t.Fatal(w, p)
		}
		check := func(name string, change func(v *api.Watch)) {
			v := with(w, change)
			if round.Check(v) != api.OK {
				return
			}
			if can(t, w) && !can(t, v) {
				t.Fatal(name, w, v)
			}
			if k, e := round.Last(w); e == api.OK {
				if l, e := round.Last(v); e == api.OK && len(l) < len(k) {
					t.Fatal(name, w, v, k, l)
				}
			}
			if n, e := round.Spare(w); e == api.OK {
				if m, e := round.Spare(v); len(v.Ricks) > 0 && (m < n || e != api.OK) {
					t.Fatal(name, w, v, n, m, e)
				}
			}
			if n, e := round.Fewest(w); e == api.OK {
				if m, e := round.Fewest(v); m > n || e != api.OK {
					t.Fatal(name, w, v, n, m, e)
				}
			}
			counts[name]++
		}
		check("hands", func(v *api.Watch) { v.Hands++ })
		for i := range w.Ricks {
			check("less", func(v *api.Watch) { v.Ricks = slices.Delete(v.Ricks, i, i+1) })
			check("moist", func(v *api.Watch) { v.Ricks[i].Every++ })
			check("waited", func(v *api.Watch) { v.Ricks[i].Waited-- })
		}
	})
	for _, name := range []string{"hands", "less", "moist", "waited"} {
		if counts[name] < 200 {
			t.Error(counts)
		}
	}
}
