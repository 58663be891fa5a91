package round_test

import (
	"math/rand"
	"slices"
	"testing"

	"oilcake/api"
	"oilcake/round"
)

// TestPlayExamples checks P7.6 by the chapter's examples.
func TestPlayExamples(t *testing.T) {
	if l, e := round.Hot(example(), days(nil, ids(1), nil)); !slices.Equal(l, []api.Heat{heat(3, 2)}) || e != api.OK {
		t.Error(l, e)
	}
	want := watch(1, rick(1, 2, 1), rick(2, 4, 0), rick(3, 4, 2))
	if w, e := round.After(example(), days(ids(1), ids(2))); !sameWatch(w, want) || e != api.OK {
		t.Error(w, e)
	}
	for _, x := range []struct {
		l    [][]int
		want bool
	}{{days(ids(1), ids(2), ids(1), ids(3)), true}, {days(ids(1), ids(2), ids(3)), false}} {
		if is, e := round.Repeats(example(), x.l); is != x.want || e != api.OK {
			t.Error(x, is, e)
		}
	}
}

// TestHot checks P7.6: a rick that is hot goes on waiting, and becomes hot again only after it was turned; those of one day are told by their Ids.
func TestHot(t *testing.T) {
	w := watch(2, rick(3, 2, 1), rick(5, 1, 0), rick(8, 3, 2))
	for _, x := range []struct {
		l    [][]int
		want []api.Heat
	}{
		{days(nil), []api.Heat{heat(1, 3), heat(1, 5), heat(1, 8)}},
		{make([][]int, 20), []api.Heat{heat(1, 3), heat(1, 5), heat(1, 8)}},
		{days(nil, nil, ids(3), nil, nil, nil), []api.Heat{heat(1, 3), heat(1, 5), heat(1, 8), heat(5, 3)}},
		{days(nil, ids(5), nil, ids(5), ids(5), nil), []api.Heat{heat(1, 3), heat(1, 5), heat(1, 8), heat(3, 5), heat(6, 5)}},
		{days(ids(3, 5), nil, ids(8)), []api.Heat{heat(1, 8), heat(2, 5), heat(3, 3)}},
		{days(ids(3, 8), ids(5), ids(3, 5)), []api.Heat{heat(1, 5)}},
	} {
		if l, e := round.Hot(w, x.l); !slices.Equal(l, x.want) || e != api.OK {
			t.Error(x, l, e)
		}
	}
}

// TestPlay checks P7.6: days are played as the chapter says, and After has an error just if a rick becomes hot.
func TestPlay(t *testing.T) {
	hots, cools := 0, 0
	both(91, 900, func(r *rand.Rand, w api.Watch) {
		l := careful(r, w, r.Intn(40))
		if r.Intn(3) == 0 {
			l = some(r, w, r.Intn(61))
		}
		v, want := nights(w, l)
		hot, e := round.Hot(w, l)
		if !slices.Equal(hot, want) || e != api.OK {
			t.Fatal(w, l, hot, e, want)
		}
		got, e := round.After(w, l)
		if len(want) > 0 {
			if got.Hands != 0 || len(got.Ricks) > 0 || e != api.ErrHot {
				t.Fatal(w, l, got, e)
			}
			hots++
			return
		}
		if !sameWatch(got, v) || round.Check(got) != api.OK || e != api.OK {
			t.Fatal(w, l, got, e, v)
		}
		if len(l) > 3 {
			cools++
		}
	})
	if hots < 100 || cools < 100 {
		t.Error(hots, cools)
	}
}

// TestParts checks P7.14: days in two parts are days, and a watch after days is as if these had been done one by one.
func TestParts(t *testing.T) {
	count := 0
	both(101, 600, func(r *rand.Rand, w api.Watch) {
		l := careful(r, w, 1+r.Intn(30))
		all, _ := round.Hot(w, l)
		at := r.Intn(len(l) + 1)
		k, m := l[:at], l[at:]
		first, e := round.Hot(w, k)
		if e != api.OK || len(first) > len(all) || !slices.Equal(first, all[:len(first)]) {
			t.Fatal(w, l, at, first, e, all)
		}
		v, e := round.After(w, k)
		if (e != api.OK) != (len(first) > 0) {
			t.Fatal(w, k, e, first)
		}
		if e != api.OK {
			return
		}
		second, e := round.Hot(v, m)
		for i := range second {
			second[i].Day += at
		}
		if !slices.Equal(slices.Concat(first, second), all) || e != api.OK {
			t.Fatal(w, l, at, first, second, e, all)
		}
		x, e := round.After(w, l)
		y, f := round.After(v, m)
		if !sameWatch(x, y) || e != f {
			t.Fatal(w, l, at, x, e, y, f)
		}
		z, g := w, api.OK
		for _, d := range l {
			if g == api.OK {
				z, g = round.After(z, days(d))
			}
		}
		if !sameWatch(x, z) || e != g {
			t.Fatal(w, l, x, e, z, g)
		}
		if e == api.OK {
			count++
		}
	})
	if count < 100 {
		t.Error(count)
	}
}

// TestRepeats checks P7.6 and P7.15: days repeat just if they can be done, and done again seven times, without a rick that becomes hot.
func TestRepeats(t *testing.T) {
	counts := map[int]int{}
	both(111, 900, func(r *rand.Rand, w api.Watch) {
		l := careful(r, w, 1+r.Intn(8))
		if _, again, e := round.Round(w); e == api.OK && r.Intn(2) == 0 {
			l = again[:min(len(again), 60)]
		}
		times := 0 // how often they can be done
		v := w
		for e := api.OK; e == api.OK && times < 8; {
			if v, e = round.After(v, l); e == api.OK {
				times++
			}
		}
		if is, e := round.Repeats(w, l); is != (times == 8) || e != api.OK {
			t.Fatal(w, l, is, e, times)
		}
		counts[times]++
	})
	for n := range 4 {
		if counts[n] < 5 {
			t.Error(counts)
		}
	}
	if counts[8] < 50 {
		t.Error(counts)
	}
}

// TestRepeatsLate checks P7.6: a rick that the days do not turn becomes hot some time, be it after six times, and one that they turn too late for the second time.
func TestRepeatsLate(t *testing.T) {
	for _, x := range []struct {
		w    api.Watch
		l    [][]int
		want bool
	}{
		{fresh(0, 6), days(nil), false}, {fresh(1, 1, 6), days(ids(1)), false}, {watch(2, rick(1, 1, 0), rick(2, 6, 5)), days(ids(1, 2)), true},
		{fresh(1, 3), days(ids(1), nil, nil), true}, {fresh(1, 3), days(ids(1), nil, nil, nil), false}, {fresh(1, 4), days(nil, ids(1), nil), true},
		{fresh(1, 3), days(nil, ids(1), nil, nil), false}, {fresh(1, 4), days(nil, ids(1), nil, nil), true}, {watch(1, rick(1, 4, 3)), days(nil, ids(1), nil), false},
		{fresh(1, 6, 6), days(nil, nil, ids(1), nil, ids(2), nil), true}, {fresh(1, 5), days(nil, nil, ids(1), nil, nil, nil), false}, {watch(0), days(nil, nil), true},
	} {
		if is, e := round.Repeats(x.w, x.l); is != x.want || e != api.OK {
			t.Error(x, is, e)
		}
	}
}

// TestRoundRepeats checks P7.9: the round can be done again and again.
func TestRoundRepeats(t *testing.T) {
	count := 0
	both(121, 300, func(r *rand.Rand, w api.Watch) {
		lead, again, e := round.Round(w)
		if e != api.OK || len(lead) > 60 || len(again) > 60 {
			return
		}
		v, e := round.After(w, lead)
		if e != api.OK {
			t.Fatal(w, lead, e)
		}
		if is, e := round.Repeats(v, again); !is || e != api.OK {
			t.Fatal(w, again, is, e)
		}
		if x, e := round.After(v, again); !sameWatch(x, v) || e != api.OK {
			t.Fatal(w, again, x, e, v)
		}
		count++
	})
	if count < 100 {
		t.Error(count)
	}
}

// TestPut checks P7.7: a rick more is in its place by Id, all else is as it was.
func TestPut(t *testing.T) {
	w := watch(2, rick(3, 4, 2), rick(6, 1, 0))
	for _, x := range []struct {
		x    api.Rick
		want []api.Rick
	}{
		{rick(1, 6, 5), []api.Rick{rick(1, 6, 5), rick(3, 4, 2), rick(6, 1, 0)}},
		{rick(5, 2, 0), []api.Rick{rick(3, 4, 2), rick(5, 2, 0), rick(6, 1, 0)}},
		{rick(9999, 1, 0), []api.Rick{rick(3, 4, 2), rick(6, 1, 0), rick(9999, 1, 0)}},
	} {
		if v, e := round.Put(w, x.x); !sameWatch(v, watch(2, x.want...)) || e != api.OK {
			t.Error(x, v, e)
		}
	}
	if v, e := round.Put(api.Watch{}, rick(7, 3, 1)); !sameWatch(v, watch(0, rick(7, 3, 1))) || e != api.OK {
		t.Error(v, e)
	}
	if v, e := round.Put(watch(1, many(3)...), rick(7, 3, 1)); len(v.Ricks) != 4 || v.Ricks[0].Id != 7 || e != api.OK {
		t.Error(v, e)
	}
}

// TestDrop checks P7.7: a rick less, all else is as it was, and put back it is as before.
func TestDrop(t *testing.T) {
	for id, want := range map[int]api.Watch{
		1: watch(1, rick(2, 4, 1), rick(3, 4, 0)), 2: watch(1, rick(1, 2, 0), rick(3, 4, 0)), 3: watch(1, rick(1, 2, 0), rick(2, 4, 1)),
	} {
		w, e := round.Drop(example(), id)
		if !sameWatch(w, want) || e != api.OK {
			t.Error(id, w, e)
		}
		if v, e := round.Put(w, example().Ricks[id-1]); !sameWatch(v, example()) || e != api.OK {
			t.Error(id, v, e)
		}
	}
	if w, e := round.Drop(watch(0, rick(9999, 5, 1)), 9999); w.Hands != 0 || len(w.Ricks) > 0 || e != api.OK {
		t.Error(w, e)
	}
}
