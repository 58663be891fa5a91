package can_test

import (
	"math/rand"
	"slices"
	"testing"

	"oilcake/api"
	"oilcake/can"
)

// TestPourExamples checks P8.1 at all ends of what can be.
func TestPourExamples(t *testing.T) {
	for _, x := range []struct {
		c     api.Cans
		x     api.Pouring
		stock int
		in    []int // nil: it cannot be
	}{
		{example(), pours(0, 1)[0], 17, ints(3, 0)}, {example(), pours(0, 2)[0], 15, ints(0, 5)}, {example(), pours(1, 0)[0], 0, nil}, {example(), pours(1, 2)[0], 0, nil},
		{cans(17, ints(3, 5), ints(3, 0)), pours(0, 1)[0], 0, nil}, {cans(17, ints(3, 5), ints(1, 0)), pours(0, 1)[0], 15, ints(3, 0)}, {cans(2, ints(3, 5), ints(1, 0)), pours(0, 1)[0], 0, ints(3, 0)}, {cans(1, ints(3, 5), ints(1, 0)), pours(0, 1)[0], 0, nil}, {cans(0, ints(3, 5), ints(1, 0)), pours(0, 1)[0], 0, nil}, {cans(0, ints(3, 5), ints(3, 0)), pours(0, 1)[0], 0, nil},
		{cans(17, ints(3, 5), ints(2, 0)), pours(1, 0)[0], 19, ints(0, 0)}, {cans(598, ints(3, 5), ints(2, 0)), pours(1, 0)[0], 600, ints(0, 0)}, {cans(599, ints(3, 5), ints(2, 0)), pours(1, 0)[0], 0, nil}, {cans(600, ints(3, 5), ints(2, 0)), pours(1, 0)[0], 0, nil}, {cans(0, ints(3, 5), ints(0, 4)), pours(2, 0)[0], 4, ints(0, 0)},
		{cans(17, ints(3, 5), ints(3, 0)), pours(1, 2)[0], 17, ints(0, 3)}, {cans(17, ints(3, 5), ints(3, 2)), pours(1, 2)[0], 17, ints(0, 5)}, {cans(17, ints(3, 5), ints(3, 4)), pours(1, 2)[0], 17, ints(2, 5)}, {cans(17, ints(3, 5), ints(3, 5)), pours(1, 2)[0], 0, nil}, {cans(17, ints(3, 5), ints(3, 5)), pours(2, 1)[0], 0, nil}, {cans(600, ints(3, 5), ints(1, 5)), pours(2, 1)[0], 600, ints(3, 3)}, {cans(0, ints(3, 5), ints(0, 1)), pours(2, 1)[0], 0, ints(1, 0)}, {cans(9, ints(3, 5), ints(1, 0)), pours(2, 1)[0], 0, nil},
		{cans(9, ints(3, 5, 8), ints(1, 2, 4)), pours(3, 2)[0], 9, ints(1, 5, 1)}, {cans(9, ints(3, 5, 8), ints(1, 2, 4)), pours(2, 3)[0], 9, ints(1, 0, 6)}, {cans(9, ints(3, 5, 8), ints(1, 2, 4)), pours(0, 3)[0], 5, ints(1, 2, 8)}, {cans(9, ints(3, 5, 8), ints(1, 2, 4)), pours(3, 0)[0], 13, ints(1, 2, 0)},
	} {
		d, e := can.Pour(x.c, x.x)
		want, f := cans(x.stock, x.c.Sizes, x.in), api.OK
		if x.in == nil {
			want, f = api.Cans{}, api.ErrNone
		}
		if !same(d, want) || e != f {
			t.Error(x, d, e)
		}
	}
}

// TestPour checks P8.1 and P8.11: each pouring does what the chapter tells, if it can be, and no oil is lost.
func TestPour(t *testing.T) {
	counts := map[bool]int{}
	some(1, 3000, 20, func(r *rand.Rand, c api.Cans) {
		for _, x := range every(len(c.Sizes)) {
			want, _, is := poured(c, x)
			d, e := can.Pour(c, x)
			counts[is]++
			if is && (!same(d, want) || e != api.OK || oil(d) != oil(c) || can.Check(d) != api.OK) {
				t.Fatal(c, x, d, e, want)
			}
			if !is && (!same(d, api.Cans{}) || e != api.ErrNone) {
				t.Fatal(c, x, d, e)
			}
		}
	})
	if counts[true] < 1000 || counts[false] < 1000 {
		t.Error(counts)
	}
}

// TestPlayExamples checks P8.1: what is poured back is counted, and the first pouring with an error is told.
func TestPlayExamples(t *testing.T) {
	list := pours(0, 2, 2, 1, 1, 0, 2, 1, 0, 2, 2, 1)
	if d, back, at, e := can.Play(example(), list); !same(d, cans(13, ints(3, 5), ints(3, 4))) || back != 3 || at != 0 || e != api.OK {
		t.Error(d, back, at, e)
	}
	if d, back, at, e := can.Play(example(), pours(0, 1, 1, 0, 0, 2, 2, 1, 2, 0)); !same(d, cans(17, ints(3, 5), ints(3, 0))) || back != 5 || at != 0 || e != api.OK {
		t.Error(d, back, at, e)
	}
	for i := range len(list) + 1 {
		for _, x := range []struct {
			x api.Pouring
			e api.Errno
		}{{api.Pouring{From: 1, To: 1}, api.ErrPouring}, {api.Pouring{From: 3}, api.ErrPouring}, {api.Pouring{To: -1}, api.ErrPouring}} {
			l := slices.Insert(slices.Clone(list), i, x.x, pours(5, 5)[0])
			if d, back, at, e := can.Play(example(), l); !same(d, api.Cans{}) || back != 0 || at != i || e != x.e {
				t.Error(i, x, d, back, at, e)
			}
		}
	}
	for i, l := range [][]api.Pouring{pours(1, 0), pours(0, 1, 0, 1), pours(0, 1, 0, 2, 1, 2), pours(0, 1, 1, 0, 0, 1, 1, 0, 2, 1, 0, 0)} {
		if d, back, at, e := can.Play(example(), l); !same(d, api.Cans{}) || back != 0 || at != ints(0, 1, 2, 4)[i] || e != api.ErrNone {
			t.Error(i, d, back, at, e)
		}
	}
	if d, back, at, e := can.Play(empty(20, 21), list); !same(d, api.Cans{}) || back != 0 || at != 0 || e != api.ErrCans {
		t.Error(d, back, at, e)
	}
	long := slices.Repeat(pours(0, 2, 2, 0), 50000)
	if d, back, at, e := can.Play(example(), long); !same(d, example()) || back != 250000 || at != 0 || e != api.OK {
		t.Error(d, back, at, e)
	}
	if d, back, at, e := can.Play(example(), append(long, pours(2, 1)...)); !same(d, api.Cans{}) || back != 0 || at != 100000 || e != api.ErrNone {
		t.Error(d, back, at, e)
	}
}

// TestPlay checks P8.1, P8.11 and P8.14: pourings are played one after the other, in two pieces as in one, and no oil is lost.
func TestPlay(t *testing.T) {
	backs := 0
	some(2, 1500, 20, func(r *rand.Rand, c api.Cans) {
		l := stroll(r, c, r.Intn(15))
		want, all := c, 0
		for _, x := range l {
			d, back, _ := poured(want, x)
			e := api.OK
			if want, e = can.Pour(want, x); e != api.OK || !same(want, d) {
				t.Fatal(c, l, want, d, e)
			}
			all += back
		}
		d, back := play(t, c, l)
		if !same(d, want) || back != all || oil(d) != oil(c) {
			t.Fatal(c, l, d, want, back, all)
		}
		n := r.Intn(len(l) + 1)
		middle, one := play(t, c, l[:n])
		end, other := play(t, middle, l[n:])
		if !same(end, d) || one+other != back {
			t.Fatal(c, l, n, end, d, one, other, back)
		}
		if back > 0 {
			backs++
		}
		for _, x := range every(len(c.Sizes)) {
			if _, _, is := poured(d, x); !is {
				k := append(slices.Clone(l), x, x, api.Pouring{})
				if d, back, at, e := can.Play(c, k); !same(d, api.Cans{}) || back != 0 || at != len(l) || e != api.ErrNone {
					t.Fatal(c, k, d, back, at, e)
				}
			}
		}
	})
	if backs < 500 {
		t.Error(backs)
	}
}

// TestBeforeExamples checks P8.2 by the chapter's example, and at the ends of what the tank can hold.
func TestBeforeExamples(t *testing.T) {
	for _, x := range []struct {
		c      api.Cans
		x      api.Pouring
		stocks []int
		in     [][]int
	}{
		{cans(20, ints(3, 5), ints(3, 0)), pours(0, 1)[0], ints(23, 22, 21), [][]int{{0, 0}, {1, 0}, {2, 0}}},
		{cans(598, ints(3, 5), ints(3, 0)), pours(0, 1)[0], ints(600, 599), [][]int{{1, 0}, {2, 0}}}, {cans(600, ints(3, 5), ints(3, 0)), pours(0, 1)[0], nil, nil}, {cans(0, ints(3, 5), ints(3, 0)), pours(0, 1)[0], ints(3, 2, 1), [][]int{{0, 0}, {1, 0}, {2, 0}}}, {cans(20, ints(3, 5), ints(2, 0)), pours(0, 1)[0], nil, nil}, {cans(20, ints(3, 5), ints(3, 0)), pours(0, 2)[0], nil, nil},
		{cans(20, ints(3, 5), ints(0, 4)), pours(1, 0)[0], ints(19, 18, 17), [][]int{{1, 4}, {2, 4}, {3, 4}}}, {cans(2, ints(3, 5), ints(0, 4)), pours(1, 0)[0], ints(1, 0), [][]int{{1, 4}, {2, 4}}}, {cans(0, ints(3, 5), ints(0, 4)), pours(1, 0)[0], nil, nil}, {cans(600, ints(3, 5), ints(0, 4)), pours(1, 0)[0], ints(599, 598, 597), [][]int{{1, 4}, {2, 4}, {3, 4}}}, {cans(20, ints(3, 5), ints(1, 4)), pours(1, 0)[0], nil, nil},
		// What was poured over emptied the one, or filled the other one.
		{cans(20, ints(3, 5), ints(0, 2)), pours(1, 2)[0], ints(20, 20), [][]int{{1, 1}, {2, 0}}}, {cans(20, ints(3, 5), ints(0, 2)), pours(2, 1)[0], nil, nil}, {cans(20, ints(3, 5), ints(2, 5)), pours(1, 2)[0], ints(20), [][]int{{3, 4}}}, {cans(20, ints(3, 5), ints(3, 2)), pours(2, 1)[0], ints(20, 20, 20), [][]int{{0, 5}, {1, 4}, {2, 3}}}, {cans(20, ints(3, 5), ints(1, 4)), pours(2, 1)[0], nil, nil}, {cans(20, ints(3, 5), ints(3, 5)), pours(1, 2)[0], nil, nil}, {cans(20, ints(3, 5), ints(0, 5)), pours(1, 2)[0], ints(20, 20, 20), [][]int{{1, 4}, {2, 3}, {3, 2}}}, {cans(20, ints(3, 5), ints(0, 0)), pours(1, 2)[0], nil, nil},
		{cans(0, ints(20, 20), ints(0, 20)), pours(1, 2)[0], ints(0, 0, 0, 0, 0, 0, 0, 0, 0, 0, 0, 0, 0, 0, 0, 0, 0, 0, 0, 0), [][]int{{1, 19}, {2, 18}, {3, 17}, {4, 16}, {5, 15}, {6, 14}, {7, 13}, {8, 12}, {9, 11}, {10, 10}, {11, 9}, {12, 8}, {13, 7}, {14, 6}, {15, 5}, {16, 4}, {17, 3}, {18, 2}, {19, 1}, {20, 0}}},
	} {
		var want []api.Cans
		for i, in := range x.in {
			want = append(want, cans(x.stocks[i], x.c.Sizes, in))
		}
		if l, e := can.Before(x.c, x.x); !slices.EqualFunc(l, want, same) || e != api.OK {
			t.Error(x.c, x.x, l, e)
		}
	}
}

// befores are all cans with which a pouring leads to some, each amount tried.
func befores(c api.Cans, x api.Pouring) []api.Cans {
	var l []api.Cans
	for _, in := range wishes(c) {
		d := cans(oil(c)-sum(in), c.Sizes, in)
		if slices.Contains(in, -1) || d.Stock < 0 || d.Stock > 600 {
			continue
		}
		if after, _, is := poured(d, x); is && same(after, c) {
			l = append(l, d)
		}
	}
	return l
}

// TestBefore checks P8.2 and P8.12: all cans from which a pouring leads to some are told, in order, and no others.
func TestBefore(t *testing.T) {
	counts := map[int]int{}
	some(3, 400, 9, func(r *rand.Rand, c api.Cans) {
		if l := stroll(r, c, r.Intn(4)); r.Intn(3) > 0 {
			c, _ = play(t, c, l)
		}
		for _, x := range every(len(c.Sizes)) {
			want := befores(c, x)
			l, e := can.Before(c, x)
			if !slices.EqualFunc(l, want, same) || e != api.OK {
				t.Fatal(c, x, l, e, want)
			}
			for i, d := range l {
				if after, e := can.Pour(d, x); !same(after, c) || e != api.OK || i > 0 && slices.Compare(l[i-1].In, d.In) >= 0 {
					t.Fatal(c, x, l, i, after, e)
				}
			}
			counts[min(len(l), 2)]++
		}
	})
	for n := range 3 {
		if counts[n] < 100 {
			t.Error(counts)
		}
	}
}
