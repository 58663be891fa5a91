package turn_test

import (
	"math/rand"
	"slices"
	"testing"

	"oilcake/api"
	"oilcake/turn"
)

// TestExamplesWrong checks P9.5 by the chapter's examples.
func TestExamplesWrong(t *testing.T) {
	if x, left, e := turn.Ask(example()); x != was(2, 2) || left != 5 || e != api.OK {
		t.Error(x, left, e)
	}
	if l, e := turn.Wrong(example()); len(l) > 0 || e != api.OK {
		t.Error(l, e)
	}
	if l, e := turn.Wrong(contradicted()); !slices.Equal(l, ints(1)) || e != api.OK {
		t.Error(l, e)
	}
}

// TestAskFirst checks P9.5: of several questions that tell as much, the one of the first pressing counts, then that of the first man; it asks whether a man was there.
func TestAskFirst(t *testing.T) {
	for i, x := range []struct {
		r    api.Roll
		want api.Thing
		left int
	}{
		{blank(4, 4), was(1, 1), 32768},
		{with(blank(2, 2), was(1, 1), was(1, 1)), was(2, 1), 4},
		{with(blank(2, 2), not(1, 1), not(1, 1), was(2, 1), was(2, 1)), was(1, 2), 2},
		{with(blank(2, 2), not(1, 1), not(1, 1), was(2, 1), was(2, 1), was(1, 2), was(1, 2)), was(2, 2), 1},
		{with(blank(2, 1), was(1, 1), was(2, 1)), was(1, 1), 2},
		{with(blank(2, 1), not(1, 1), not(2, 1)), was(1, 1), 2},
		{with(blank(3, 1), was(1, 1), was(2, 1), was(1, 1), was(3, 1)), was(2, 1), 3},
		{with(blank(3, 1), was(1, 1), was(2, 1)), was(3, 1), 3},
	} {
		if y, left, e := turn.Ask(x.r); y != x.want || left != x.left || e != api.OK {
			t.Error(i, y, left, e)
		}
	}
}

// TestAsk checks P9.5 and P9.16 by counting what each question leaves: none leaves less at worst, and none before it as little.
func TestAsk(t *testing.T) {
	some(21, 300, 9, 10, func(r *rand.Rand, l api.Roll) {
		x, left, e := turn.Ask(l)
		all := count(t, l)
		if all < 2 {
			if want := [...]api.Errno{api.ErrBad, api.ErrNone}[all]; e != want {
				t.Error(l, x, left, e)
			}
			return
		}
		if e != api.OK || !x.There || left >= all {
			t.Fatal(l, x, left, e)
		}
		before := true
		for _, y := range things(l) {
			worst := max(count(t, put(t, l, y, y)), count(t, put(t, l, contrary(y), contrary(y))))
			if y == x {
				before = false
				if worst != left {
					t.Error(l, x, left, worst)
				}
			}
			if worst < left || y.There && before && worst == left {
				t.Error(l, x, left, y, worst)
			}
		}
	})
}

// TestWrongFirst checks P9.5: a short list first, then the one with the lesser Number; up to three notes, not four.
func TestWrongFirst(t *testing.T) {
	a, b, c := was(1, 1), was(2, 1), was(1, 2)
	na, nb, nc := contrary(a), contrary(b), contrary(c)
	for i, x := range []struct {
		r    api.Roll
		want []int
		e    api.Errno
	}{
		{blank(4, 4), nil, api.OK},
		{with(blank(2, 2), a, a, na, na), ints(1), api.OK},
		{with(blank(2, 2), a, a, na, na, a, a), ints(2), api.OK},
		{with(blank(2, 2), a, a, na, na, a, a, na, na), ints(1, 3), api.OK},
		{with(blank(2, 2), a, a, b, b, na, na, nb, nb), ints(1, 2), api.OK},
		{with(blank(2, 2), a, a, na, b, nb, nb, c, c), ints(1), api.OK},
		{with(blank(2, 2), c, c, a, a, na, b, nb, nb), ints(2), api.OK},
		{with(blank(2, 2), na, b, na, nb, nc, a, c, c), ints(1), api.OK},
		{with(blank(2, 2), a, b, nc, nc, c, c, a, nb, na, na), ints(1, 2), api.OK},
		{with(blank(2, 2), nb, nb, b, b, nb, nb, b, b, nb, nb, b, b), ints(1, 3, 5), api.OK},
		{with(blank(2, 2), b, b, b, b, b, b, b, b, nb, nb, nb, nb, nb, nb, nb, nb), nil, api.ErrMany},
		{with(blank(2, 2), b, b, b, b, b, b, b, b, nb, nb, nb, nb, nb, nb), ints(5, 6, 7), api.OK},
		{quarrel(1), ints(1), api.OK}, {quarrel(2), ints(1, 2), api.OK}, {quarrel(3), ints(1, 2, 3), api.OK}, {quarrel(4), nil, api.ErrMany}, {quarrel(12), nil, api.ErrMany},
	} {
		if l, e := turn.Wrong(x.r); !slices.Equal(l, x.want) || e != x.e {
			t.Error(i, l, e)
		}
	}
}

// checkWrong checks what Wrong tells by all lists of notes, and returns how many it told.
func checkWrong(t *testing.T, l api.Roll) int {
	want, is := spare(l, 3)
	got, e := turn.Wrong(l)
	if !slices.Equal(got, want) || is != (e == api.OK) || !is && e != api.ErrMany {
		t.Error(l, got, want, e)
	}
	return len(got)
}

// TestWrong checks P9.5 and P9.13 by all lists of notes of random rolls: without those that are told there is a truth, without fewer, or others before them, none.
func TestWrong(t *testing.T) {
	var told [4]int
	some(22, 250, 4, 12, func(r *rand.Rand, l api.Roll) { told[checkWrong(t, l)]++ })
	r := rand.New(rand.NewSource(23))
	for range 60 { // few things, many notes
		told[checkWrong(t, random(r, 1+r.Intn(2), 1+r.Intn(2), 12+r.Intn(9)))]++
	}
	for n, times := range told {
		if times < 5 {
			t.Error(n, times)
		}
	}
}

// TestStruck checks P9.13 with Strike and Count, for greater rolls: without the notes that are told there is a truth, and each one of them has to be struck.
func TestStruck(t *testing.T) {
	told := 0
	some(24, 200, 16, 24, func(r *rand.Rand, l api.Roll) {
		list, e := turn.Wrong(l)
		if e != api.OK {
			return
		}
		left, e := turn.Strike(l, list)
		if e != api.OK || count(t, left) == 0 {
			t.Error(l, list, e)
		}
		for i := range list {
			told++
			less := slices.Delete(slices.Clone(list), i, i+1)
			if left, e := turn.Strike(l, less); e != api.OK || count(t, left) != 0 {
				t.Error(l, list, less, e)
			}
		}
	})
	if told < 20 {
		t.Error(told)
	}
}
