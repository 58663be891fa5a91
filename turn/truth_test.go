package turn_test

import (
	"math/rand"
	"slices"
	"testing"

	"oilcake/api"
	"oilcake/turn"
)

// TestExamplesTruth checks P9.2 by the chapter's examples.
func TestExamplesTruth(t *testing.T) {
	r := example()
	if n, e := turn.Count(r); n != 10 || e != api.OK {
		t.Error(n, e)
	}
	if l, e := turn.Truth(r); !sameNames(l, [][]int{ints(2), ints(3)}) || e != api.OK {
		t.Error(l, e)
	}
	if k, e := turn.Known(r, was(3, 1)); k != api.KnownNo || e != api.OK {
		t.Error(k, e)
	}
	if k, e := turn.Known(r, not(3, 1)); k != api.KnownYes || e != api.OK {
		t.Error(k, e)
	}
	if k, e := turn.Known(r, was(1, 1)); k != api.KnownOpen || e != api.OK {
		t.Error(k, e)
	}
	if is, e := turn.Follows(r, not(1, 1), was(3, 2)); !is || e != api.OK {
		t.Error(is, e)
	}
	if n, e := turn.Count(contradicted()); n != 0 || e != api.OK {
		t.Error(n, e)
	}
}

// TestDocumentExample checks P9.2 by the example of DOC.md: either 1 or 2 was there, and 1 was not: so 2 was.
func TestDocumentExample(t *testing.T) {
	r := with(blank(2, 1), was(1, 1), was(2, 1), not(1, 1), not(1, 1))
	if k, e := turn.Known(r, was(2, 1)); k != api.KnownYes || e != api.OK {
		t.Error(k, e)
	}
}

// TestCount checks P9.2 and P9.8: truths are counted, up to the most that there can be.
func TestCount(t *testing.T) {
	for _, x := range []struct {
		r    api.Roll
		want int
	}{
		{blank(4, 4), 65536},
		{blank(3, 4), 4096},
		{with(blank(4, 4), was(4, 4), was(4, 4)), 32768},
		{with(blank(4, 4), not(1, 1), was(4, 4)), 49152},
		{with(blank(4, 4), not(1, 1), was(1, 1)), 65536},
		{with(blank(4, 4), was(4, 4), was(4, 4), not(4, 4), not(4, 4)), 0},
		{with(blank(1, 1), was(1, 1), was(1, 1)), 1},
	} {
		if n := count(t, x.r); n != x.want {
			t.Error(x.r, n)
		}
	}
}

// TestTruthOrder checks P9.2: the first truth is the one in which, at the first shift, and there the first man, was not there.
func TestTruthOrder(t *testing.T) {
	for _, x := range []struct {
		r    api.Roll
		want [][]int
	}{
		{blank(2, 2), [][]int{nil, nil}},
		{with(blank(2, 2), was(1, 1), was(2, 1)), [][]int{ints(2), nil}},
		{with(blank(2, 2), was(2, 1), was(1, 2)), [][]int{nil, ints(1)}},
		{with(blank(2, 2), was(1, 2), was(1, 1)), [][]int{nil, ints(1)}},
		{with(blank(2, 2), was(2, 1), was(1, 2), not(1, 2), was(1, 1)), [][]int{ints(2), nil}},
		{with(blank(2, 2), was(1, 1), was(1, 1), not(1, 1), was(2, 1)), [][]int{ints(1, 2), nil}},
	} {
		if l, e := turn.Truth(x.r); !sameNames(l, x.want) || e != api.OK {
			t.Error(x.r, l, e)
		}
	}
}

// checkTruths checks what Count, Truth, Known and Follows tell by all truths.
func checkTruths(t *testing.T, r api.Roll, pairs [][2]api.Thing) {
	t.Helper()
	all := truths(r)
	if n := count(t, r); n != len(all) {
		t.Error(r, n, len(all))
	}
	l, e := turn.Truth(r)
	if len(all) == 0 {
		if e != api.ErrBad {
			t.Error(r, l, e)
		}
		return
	}
	if !sameNames(l, names(r, all[0])) || e != api.OK {
		t.Error(r, l, e)
	}
	for _, x := range pairs {
		want := uint8(api.KnownOpen)
		switch counted(r, all, x[0]) {
		case 0:
			want = api.KnownNo
		case len(all):
			want = api.KnownYes
		}
		if k, e := turn.Known(r, x[0]); k != want || e != api.OK {
			t.Error(r, x[0], k, want, e)
		}
		both := counted(r, all, x[0], x[1]) == counted(r, all, x[0])
		if is, e := turn.Follows(r, x[0], x[1]); is != both || e != api.OK {
			t.Error(r, x, is, both, e)
		}
	}
}

// pairs are all pairs of things.
func pairs(r api.Roll) [][2]api.Thing {
	var l [][2]api.Thing
	for _, x := range things(r) {
		for _, y := range things(r) {
			l = append(l, [2]api.Thing{x, y})
		}
	}
	return l
}

// TestTruths checks P9.2 by all truths of random rolls: how many they are, the first one, what is known, and what follows.
func TestTruths(t *testing.T) {
	some(1, 400, 8, 12, func(r *rand.Rand, l api.Roll) { checkTruths(t, l, pairs(l)) })
	some(2, 40, 16, 24, func(r *rand.Rand, l api.Roll) {
		all := pairs(l)
		r.Shuffle(len(all), func(i, j int) { all[i], all[j] = all[j], all[i] })
		checkTruths(t, l, all[:min(20, len(all))])
	})
}

// TestParted checks P9.9: the truths with a thing, and those with its contrary, are together all truths; a thing is known just if there are none of the one sort, and what follows is so in all truths of the other thing.
func TestParted(t *testing.T) {
	some(3, 300, 9, 12, func(r *rand.Rand, l api.Roll) {
		all := count(t, l)
		for _, x := range things(l) {
			yes, no := count(t, put(t, l, x, x)), count(t, put(t, l, contrary(x), contrary(x)))
			if yes+no != all {
				t.Error(l, x, yes, no, all)
			}
			k, e := turn.Known(l, x)
			if (e == api.ErrBad) != (all == 0) || e == api.OK && ((k == api.KnownYes) != (no == 0) || (k == api.KnownNo) != (yes == 0)) {
				t.Error(l, x, k, e)
			}
			if first, e := turn.Truth(l); e == api.OK {
				there := slices.Contains(first[slices.IndexFunc(l.Shifts, func(s api.Shift) bool { return s.Pressing == x.Pressing })], x.Man)
				if k == api.KnownYes && there != x.There || k == api.KnownNo && there == x.There {
					t.Error(l, x, first)
				}
			}
		}
	})
}

// TestNoteMore checks P9.10: one note more never adds a truth, and nothing that was known gets open again.
func TestNoteMore(t *testing.T) {
	some(4, 300, 12, 14, func(r *rand.Rand, l api.Roll) {
		own := things(l)
		if len(own) == 0 {
			return
		}
		more := put(t, l, own[r.Intn(len(own))], own[r.Intn(len(own))])
		before, after := truths(l), truths(more)
		for _, x := range after {
			if !slices.Contains(before, x) {
				t.Error(l, x)
			}
		}
		if n := count(t, more); n != len(after) || n > count(t, l) {
			t.Error(l, n)
		}
		for _, x := range own {
			k, e := turn.Known(l, x)
			again, f := turn.Known(more, x)
			if e == api.OK && f == api.OK && k != api.KnownOpen && again != k || e == api.ErrBad && f != api.ErrBad {
				t.Error(l, x, k, again, e, f)
			}
		}
	})
}
