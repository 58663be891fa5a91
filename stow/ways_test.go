package stow_test

import (
	"math/rand"
	"slices"
	"testing"

	"oilcake/api"
	"oilcake/stow"
)

// TestWaysExamples checks P5.2 by the chapter's examples, and by those of the document.
func TestWaysExamples(t *testing.T) {
	s := example()
	for _, x := range []struct {
		s    api.Ship
		want int
	}{
		{s, 3}, {probed(s), 5}, {example(probe(2, 2, 7, 2), probe(3, 2, 0, 2)), 0},
		{api.Ship{Holds: holds(36, 36), Lots: many(2)}, 4}, {api.Ship{Holds: holds(36, 36, 36), Lots: many(5)}, 243},
		{api.Ship{Holds: holds(2, 2, 2), Lots: many(5)}, 90}, {api.Ship{Holds: holds(2, 2), Lots: many(5)}, 0},
	} {
		if n, e := stow.Ways(x.s); n != x.want || e != api.OK {
			t.Error(x.s, n, e)
		}
	}
	if l, e := stow.First(s); !slices.Equal(l, []int{1, 2, 1}) || e != api.OK {
		t.Error(l, e)
	}
	if n, e := stow.Ways(example(probe(2, 2, 7, 2))); n != 1 || e != api.OK { // by layer 12's examples
		t.Error(n, e)
	}
	if v, e := stow.Verdict(example(probe(2, 2, 7, 2)), 1); v != api.KnownYes || e != api.OK {
		t.Error(v, e)
	}
	for id := 1; id <= 3; id++ {
		if l, e := stow.Where(s, id); !slices.Equal(l, []int{1, 2}) || e != api.OK {
			t.Error(id, l, e)
		}
	}
	for _, x := range []struct {
		p    api.Place
		want []int
	}{
		{place(1, 3), []int{1, 2}}, {place(1, 4), []int{0, 1, 2}}, {place(1, 0), []int{1, 3}}, {place(1, 8), []int{0}}, {place(1, 35), []int{0}},
		{place(2, 0), []int{1, 2, 3}}, {place(2, 3), []int{1, 2}}, {place(2, 4), []int{0, 2}}, {place(2, 7), []int{0, 2}},
	} {
		if l, e := stow.At(s, x.p); !slices.Equal(l, x.want) || e != api.OK {
			t.Error(x.p, l, e)
		}
	}
}

// TestWaysAll checks P5.2 and P5.8: of all ways as they are laid bag by bag, how many there are, the first one, and all that lots and places are told, no more and no less.
func TestWaysAll(t *testing.T) {
	counts := map[int]int{}
	r := rand.New(rand.NewSource(1))
	for range 1200 {
		s := random(r, 1+r.Intn(36))
		all := ways(s)
		if n, e := stow.Ways(s); n != len(all) || e != api.OK {
			t.Fatal(s, n, e, len(all))
		}
		counts[min(len(all), 4)]++
		if len(all) > 0 {
			checkTold(t, s, all)
		}
	}
	for n := range 5 {
		if counts[n] < 60 {
			t.Error(counts)
		}
	}
}

func checkTold(t *testing.T, s api.Ship, all [][]int) {
	want := slices.MinFunc(all, slices.Compare)
	if l, e := stow.First(s); !slices.Equal(l, want) || e != api.OK {
		t.Fatal(s, l, e, want)
	}
	for i, x := range s.Lots {
		var in []int
		for _, w := range all {
			in = append(in, w[i])
		}
		if l, e := stow.Where(s, x.Id); !slices.Equal(l, set(in)) || e != api.OK {
			t.Fatal(s, x.Id, l, e, set(in))
		}
	}
	piles := piles(s)
	for _, p := range places(s) {
		var lie []int
		for _, x := range piles {
			lie = append(lie, x.bag(p).Id)
		}
		if l, e := stow.At(s, p); !slices.Equal(l, set(lie)) || e != api.OK {
			t.Fatal(s, p, l, e, set(lie))
		}
	}
}

// TestTop checks P5.2: in a hold each lot lies on those before it, and depths count from the top; lots of one mark, or of one size, are not mixed up.
func TestTop(t *testing.T) {
	s := api.Ship{Holds: []api.Hold{{Id: 7, Room: 36}}, Lots: []api.Lot{lot(2, 5, 3, 0), lot(4, 5, 1, 1), lot(9, 1, 2, 0)}}
	for depth, want := range []int{9, 9, 4, 2, 2, 2, 0} {
		if l, e := stow.At(s, place(7, depth)); !slices.Equal(l, []int{want}) || e != api.OK {
			t.Error(depth, l, e)
		}
	}
	if l, e := stow.First(s); !slices.Equal(l, []int{7, 7, 7}) || e != api.OK {
		t.Error(l, e)
	}
	// what is probed is a mark: it may be of either lot
	for depth, want := range []int{1, 1, 5, 5, 5, 5, 0, 0} {
		for mark := range 10 {
			n, e := stow.Ways(probed(s, probe(1, 7, depth, mark)))
			if (n == 1) != (mark == want) || e != api.OK {
				t.Error(depth, mark, n, e)
			}
		}
	}
}

// TestRoom checks P5.2 to the last bag: a hold with as many bags as its room is full, not too full.
func TestRoom(t *testing.T) {
	s := api.Ship{Holds: holds(5, 4), Lots: []api.Lot{lot(1, 1, 4, 0), lot(2, 1, 1, 0), lot(3, 1, 4, 0)}}
	if n, e := stow.Ways(s); n != 2 || e != api.OK { // 1 1 2 and 2 1 1
		t.Error(n, e)
	}
	s.Holds = holds(4, 4)
	if n, e := stow.Ways(s); n != 0 || e != api.OK {
		t.Error(n, e)
	}
	s.Holds = holds(9, 1)
	if n, e := stow.Ways(s); n != 2 || e != api.OK { // 1 1 1 and 1 2 1
		t.Error(n, e)
	}
}

// TestOneProbeMore checks P5.10: the ways with all that a place can show are together all ways.
func TestOneProbeMore(t *testing.T) {
	ships(2, 60, 36, func(r *rand.Rand, s api.Ship) {
		all, _ := stow.Ways(s)
		for _, p := range places(s) {
			sum := 0
			for mark := range 10 {
				q, e := stow.Put(s, probe(9999, p.Hold, p.Depth, mark))
				n, f := stow.Ways(q)
				if e != api.OK || f != api.OK || n > all {
					t.Fatal(s, p, mark, n, all, e, f)
				}
				sum += n
			}
			if sum != all {
				t.Fatal(s, p, sum, all)
			}
		}
	})
}

// TestTogether checks P5.11: the bags of all holds, and the dirty ones, lie between what is told of them, and are just that in a ship with one way.
func TestTogether(t *testing.T) {
	single := 0
	ships(3, 1500, 30, func(r *rand.Rand, s api.Ship) {
		wantBags, wantDirty := 0, 0
		for _, x := range s.Lots {
			wantBags += x.Bags
			wantDirty += x.Dirty
		}
		var bags, dirty api.Span
		for _, h := range s.Holds {
			b, e := stow.Bags(s, h.Id)
			d, f := stow.Dirty(s, h.Id)
			if e != api.OK || f != api.OK || b.Hi > h.Room {
				t.Fatal(s, h, b, d, e, f)
			}
			bags.Lo, bags.Hi = bags.Lo+b.Lo, bags.Hi+b.Hi
			dirty.Lo, dirty.Hi = dirty.Lo+d.Lo, dirty.Hi+d.Hi
		}
		if bags.Lo > wantBags || bags.Hi < wantBags || dirty.Lo > wantDirty || dirty.Hi < wantDirty {
			t.Fatal(s, bags, dirty, wantBags, wantDirty)
		}
		if n, _ := stow.Ways(s); n == 1 {
			single++
			if bags != span(wantBags, wantBags) || dirty != span(wantDirty, wantDirty) {
				t.Fatal(s, bags, dirty, wantBags, wantDirty)
			}
		}
	})
	if single < 200 {
		t.Error(single)
	}
}

// TestMoreRoom checks P5.15: with more room all ways are still there, and a lot that may lie in no other hold lies there in each way.
func TestMoreRoom(t *testing.T) {
	alone, more := 0, 0
	ships(4, 400, 30, func(r *rand.Rand, s api.Ship) {
		wide := with(s, func(s *api.Ship) {
			h := &s.Holds[r.Intn(len(s.Holds))]
			h.Room = min(36, h.Room+1+r.Intn(8))
		})
		n, _ := stow.Ways(s)
		m, e := stow.Ways(wide)
		if e != api.OK || m < n {
			t.Fatal(s, n, m, e)
		}
		if m > n {
			more++
		}
		before, _ := stow.First(s)
		if after, e := stow.First(wide); e != api.OK || slices.Compare(after, before) > 0 {
			t.Fatal(s, before, after, e)
		}
		for i, x := range s.Lots {
			l, _ := stow.Where(s, x.Id)
			k, e := stow.Where(wide, x.Id)
			if e != api.OK || slices.ContainsFunc(l, func(hold int) bool { return !slices.Contains(k, hold) }) {
				t.Fatal(s, x, l, k, e)
			}
			if len(l) == 1 {
				alone++
				checkAlone(t, s, i, l[0])
			}
		}
	})
	if alone < 200 || more < 60 {
		t.Error(alone, more)
	}
}

// checkAlone checks of a lot that lies in one hold only that it does so in each way: its bags, and what is dirty of them, are never missing there.
func checkAlone(t *testing.T, s api.Ship, i, hold int) {
	bags, e := stow.Bags(s, hold)
	dirty, f := stow.Dirty(s, hold)
	if e != api.OK || f != api.OK || bags.Lo < s.Lots[i].Bags || dirty.Lo < s.Lots[i].Dirty {
		t.Fatal(s, i, hold, bags, dirty, e, f)
	}
	if slices.ContainsFunc(ways(s), func(w []int) bool { return w[i] != hold }) {
		t.Fatal(s, i, hold)
	}
}
