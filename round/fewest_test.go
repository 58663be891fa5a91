package round_test

import (
	"math/rand"
	"testing"

	"oilcake/api"
	"oilcake/round"
)

// TestFewestExamples checks P7.5 by the chapter's examples, and by others that can be seen at once.
func TestFewestExamples(t *testing.T) {
	for _, x := range []struct {
		w    api.Watch
		want int
	}{
		{example(), 1}, {lost(), 2}, {watch(3), 0}, {fresh(0, 6), 1}, {fresh(3, 6), 1}, {fresh(0, 1, 1, 1), 3}, {fresh(1, 2, 3, 6), 2},
		{watch(0, rick(1, 6, 5), rick(2, 6, 5), rick(3, 6, 5)), 3},
	} {
		if n, e := round.Fewest(x.w); n != x.want || e != api.OK {
			t.Error(x.w, n, e)
		}
	}
	for _, x := range []struct {
		w          api.Watch
		rick, want int
	}{
		{example(), 1, 2}, {example(), 3, 4}, {example(), 2, 4}, {fresh(1, 6), 1, 1}, {watch(1, rick(9, 6, 4)), 9, 5}, {watch(1, rick(9, 6, 5)), 9, 6},
		{fresh(1, 2, 3, 6), 3, 0}, {fresh(1, 2, 3, 6), 2, 4}, {fresh(1, 2, 3, 6), 1, 3}, {lost(), 2, 5}, {lost(), 3, 6}, {fresh(2, 1, 1, 6), 1, 2}, {fresh(2, 1, 1, 1, 6), 4, 0}, {fresh(2, 1, 4, 6), 2, 2},
	} {
		want := api.OK
		if x.want == 0 {
			want = api.ErrBad
		}
		if n, e := round.Moistest(x.w, x.rick); n != x.want || e != want {
			t.Error(x.w, x.rick, n, e)
		}
	}
	for _, x := range []struct {
		w    api.Watch
		want int
	}{
		{example(), 0}, {fresh(1, 6), 5}, {fresh(1, 1), 0}, {watch(1, rick(9, 6, 4)), 1}, {fresh(1, 6, 6), 4}, {fresh(2, 6, 6), 5}, {fresh(1, 3, 3, 3), 0}, {fresh(3, 2, 2, 2), 1}, {fresh(1, 3, 3), 1},
	} {
		if n, e := round.Spare(x.w); n != x.want || e != api.OK {
			t.Error(x.w, n, e)
		}
	}
}

// TestFewest checks P7.5 and P7.13: with the fewest hands it can go on for ever, with one less it cannot, and it does not matter how many there are.
func TestFewest(t *testing.T) {
	counts := map[int]int{}
	both(61, 600, func(r *rand.Rand, w api.Watch) {
		hands := func(n int) api.Watch { return with(w, func(v *api.Watch) { v.Hands = n }) }
		n, e := round.Fewest(w)
		if e == api.ErrBad {
			if n != 0 || can(t, hands(3)) {
				t.Fatal(w, n)
			}
			counts[-1]++
			return
		}
		if e != api.OK || !can(t, hands(n)) || n > 0 && can(t, hands(n-1)) {
			t.Fatal(w, n, e)
		}
		for m := range 4 {
			if k, e := round.Fewest(hands(m)); k != n || e != api.OK {
				t.Fatal(w, m, k, e, n)
			}
		}
		counts[n]++
	})
	for n := -1; n <= 3; n++ {
		if counts[n] < 5 {
			t.Error(counts)
		}
	}
}

// TestMoistest checks P7.5 and P7.13: with the moistest cake it can go on for ever; were it more moist, it could not, or it would be hot; and it does not matter how moist it is.
func TestMoistest(t *testing.T) {
	counts := map[int]int{}
	both(71, 400, func(r *rand.Rand, w api.Watch) {
		for i, x := range w.Ricks {
			every := func(n int) api.Watch { return with(w, func(v *api.Watch) { v.Ricks[i].Every = n }) }
			n, e := round.Moistest(w, x.Id)
			if e == api.ErrBad {
				if n != 0 || can(t, every(6)) {
					t.Fatal(w, x, n)
				}
				counts[0]++
				continue
			}
			if e != api.OK || n <= x.Waited || !can(t, every(n)) || n > x.Waited+1 && can(t, every(n-1)) {
				t.Fatal(w, x, n, e)
			}
			other := every(x.Waited + 1 + r.Intn(6-x.Waited))
			if m, e := round.Moistest(other, x.Id); m != n || e != api.OK {
				t.Fatal(w, x, n, m, e)
			}
			counts[n]++
		}
	})
	for n := range 7 {
		if counts[n] < 20 {
			t.Error(counts)
		}
	}
}

// TestSpare checks P7.5 and P7.16: after the spare days it can go on for ever, after one more it cannot, or a rick has become hot.
func TestSpare(t *testing.T) {
	counts := map[int]int{}
	both(81, 600, func(r *rand.Rand, w api.Watch) {
		n, e := round.Spare(w)
		if len(w.Ricks) == 0 || !can(t, w) {
			if n != 0 || len(w.Ricks) == 0 && e != api.ErrNone || len(w.Ricks) > 0 && e != api.ErrBad {
				t.Fatal(w, n, e)
			}
			return
		}
		v, hot := nights(w, make([][]int, n))
		if e != api.OK || len(hot) > 0 || !can(t, v) {
			t.Fatal(w, n, e, v, hot)
		}
		v, hot = nights(w, make([][]int, n+1))
		if len(hot) == 0 && can(t, v) {
			t.Fatal(w, n, v)
		}
		if len(hot) == 0 { // the end of the spare days is not just the first rick that becomes hot
			counts[-1]++
		}
		counts[n]++
	})
	for n := -1; n <= 2; n++ {
		if counts[n] < 20 {
			t.Error(counts)
		}
	}
}
