package stow_test

import (
	"math/bits"
	"math/rand"
	"slices"
	"testing"

	"oilcake/api"
	"oilcake/stow"
)

// TestWrongExamples checks P5.6 by the chapter's examples.
func TestWrongExamples(t *testing.T) {
	s := example(probe(2, 2, 7, 2), probe(3, 2, 0, 2))
	if l, e := stow.Wrong(s); !slices.Equal(l, []int{2}) || e != api.OK {
		t.Error(l, e)
	}
	if l, e := stow.Wrong(example()); len(l) != 0 || e != api.OK {
		t.Error(l, e)
	}
	if l, e := stow.Wrong(with(s, func(s *api.Ship) { s.Holds = holds(7, 3) })); len(l) != 0 || e != api.ErrNone {
		t.Error(l, e)
	}
}

// fewestLies are the fewest probes without which there is a way, set by set; of several such lists the first one.
func fewestLies(s api.Ship) ([]int, api.Errno) {
	var best []int
	found := false
	for set := range 1 << len(s.Probes) {
		l := []int{}
		for i, x := range s.Probes {
			if set>>i&1 == 1 {
				l = append(l, x.Number)
			}
		}
		if found && (bits.OnesCount(uint(set)) > len(best) || len(l) == len(best) && slices.Compare(l, best) > 0) {
			continue
		}
		if len(ways(dropped(s, l...))) > 0 {
			best, found = l, true
		}
	}
	if !found {
		return nil, api.ErrNone
	}
	return best, api.OK
}

// lying is a ship with some probes more, of which any may be false.
func lying(r *rand.Rand, s api.Ship, most int) api.Ship {
	return with(s, func(s *api.Ship) {
		for range r.Intn(most + 1) {
			x := probe(s.Probes[len(s.Probes)-1].Number+1+r.Intn(3), s.Holds[r.Intn(len(s.Holds))].Id, r.Intn(12), r.Intn(4))
			s.Probes = append(s.Probes, x)
		}
	})
}

// TestWrong checks P5.6 and P5.13: without the probes that are told there is a way, without fewer, or others before them, none.
func TestWrong(t *testing.T) {
	lengths, none := map[int]int{}, 0
	r := rand.New(rand.NewSource(12))
	for done := 0; done < 700; {
		s := random(r, 1+r.Intn(15))
		if len(s.Probes) == 0 && len(roomy(s)) > 0 {
			continue
		}
		if len(s.Probes) > 0 {
			s = lying(r, s, 4)
		}
		done++
		want, f := fewestLies(s)
		l, e := stow.Wrong(s)
		if !slices.Equal(l, want) || e != f {
			t.Fatal(s, l, e, want, f)
		}
		if e != api.OK {
			none++
			continue
		}
		lengths[len(l)]++
		q, e := stow.Strike(s, l)
		if n, f := stow.Ways(q); n == 0 || e != api.OK || f != api.OK {
			t.Fatal(s, l, n, e, f)
		}
	}
	if lengths[0] < 50 || lengths[1] < 50 || lengths[2] < 50 || lengths[3] < 20 || none < 50 {
		t.Error(lengths, none)
	}
}

// TestWrongMany checks P5.6: all ten probes can be false, and of lists that are as long the first one is told.
func TestWrongMany(t *testing.T) {
	s := api.Ship{Holds: holds(36), Lots: []api.Lot{lot(1, 1, 36, 0)}}
	var all []int
	for i := range 10 {
		s.Probes = append(s.Probes, probe(3*i+2, 1, i, 2))
		all = append(all, 3*i+2)
	}
	if l, e := stow.Wrong(s); !slices.Equal(l, all) || e != api.OK {
		t.Error(l, e)
	}
	for i := range 10 {
		s.Probes[i].Mark = 1
		all = all[1:]
		if l, e := stow.Wrong(s); !slices.Equal(l, all) || e != api.OK {
			t.Error(i, l, e)
		}
	}
	// either of two is false: in which hold the lot lies tells which
	either := api.Ship{Holds: holds(5, 5), Lots: []api.Lot{lot(1, 1, 5, 0)}}
	for _, x := range []struct {
		probes []api.Probe
		want   []int
	}{
		{[]api.Probe{probe(4, 1, 0, 1), probe(6, 2, 0, 1)}, []int{4}},
		{[]api.Probe{probe(4, 2, 0, 1), probe(6, 1, 0, 1)}, []int{4}},
		{[]api.Probe{probe(4, 1, 0, 0), probe(6, 2, 0, 0)}, []int{4}},
		{[]api.Probe{probe(4, 1, 0, 1), probe(5, 1, 1, 1), probe(6, 2, 0, 1)}, []int{6}},
		{[]api.Probe{probe(3, 1, 0, 1), probe(4, 2, 1, 1), probe(5, 2, 2, 1), probe(6, 1, 3, 1)}, []int{3, 6}},
		{[]api.Probe{probe(3, 2, 0, 1), probe(4, 1, 1, 1), probe(5, 1, 2, 1), probe(6, 2, 3, 1)}, []int{3, 6}},
		{[]api.Probe{probe(3, 1, 0, 5), probe(4, 2, 1, 1), probe(5, 2, 2, 1), probe(6, 1, 3, 1)}, []int{3, 6}},
	} {
		if l, e := stow.Wrong(probed(either, x.probes...)); !slices.Equal(l, x.want) || e != api.OK {
			t.Error(x, l, e)
		}
	}
}

// TestPut checks P5.7: the probe comes in its place, by its Number, and the ship may have no way then.
func TestPut(t *testing.T) {
	s := example(probe(5, 2, 35, 0), probe(9, 2, 34, 0))
	for at, numbers := range [][]int{nil, {2, 3, 4}, {6, 7, 8}, {10, 9999}} {
		for _, n := range numbers {
			for mark := range 10 {
				x := probe(n, 2, 3, mark)
				want := with(s, func(s *api.Ship) { s.Probes = slices.Insert(s.Probes, at, x) })
				q, e := stow.Put(s, x)
				if !same(q, want) || e != api.OK || stow.Check(q) != api.OK {
					t.Error(x, q, e)
				}
			}
		}
	}
	first := probe(1, 1, 35, 9)
	if q, e := stow.Put(api.Ship{Holds: holds(4), Limit: 7}, first); !same(q, api.Ship{Holds: holds(4), Probes: []api.Probe{first}, Limit: 7}) || e != api.OK {
		t.Error(q, e)
	} else if n, e := stow.Ways(q); n != 0 || e != api.OK {
		t.Error(n, e)
	}
	front := probe(1, 1, 0, 0)
	if q, e := stow.Put(probed(s, probe(2, 1, 1, 1)), front); !slices.Equal(q.Probes, []api.Probe{front, probe(2, 1, 1, 1)}) || e != api.OK {
		t.Error(q, e)
	}
	nine := probed(s, unmarked(9)...)
	if q, e := stow.Put(nine, probe(30, 1, 0, 1)); len(q.Probes) != 10 || len(nine.Probes) != 9 || e != api.OK {
		t.Error(q, e)
	}
	if q, e := stow.Put(probed(s, unmarked(10)...), probe(30, 1, 0, 1)); !same(q, api.Ship{}) || e != api.ErrFull {
		t.Error(q, e)
	}
}

// TestStrike checks P5.7: just these probes go.
func TestStrike(t *testing.T) {
	s := example(probe(5, 2, 35, 0), probe(7, 1, 9, 0), probe(9, 2, 0, 8))
	for set := range 1 << 4 {
		var l []int
		for i, x := range s.Probes {
			if set>>i&1 == 1 {
				l = append(l, x.Number)
			}
		}
		if q, e := stow.Strike(s, l); !same(q, dropped(s, l...)) || e != api.OK {
			t.Error(l, q, e)
		}
	}
	for _, l := range [][]int{{0}, {2}, {-1}, {1, 1}, {5, 1}, {1, 7, 5}, {1, 5, 7, 9, 10}, {0, 1}, {1, 5, 6}} {
		if q, e := stow.Strike(s, l); !same(q, api.Ship{}) || e != api.ErrProbe {
			t.Error(l, q, e)
		}
	}
	if q, e := stow.Strike(probed(s), []int{1}); !same(q, api.Ship{}) || e != api.ErrProbe {
		t.Error(q, e)
	}
}

// TestPutStrike checks P5.7: a probe that is put and struck leaves the ship as it was.
func TestPutStrike(t *testing.T) {
	ships(13, 200, 36, func(r *rand.Rand, s api.Ship) {
		x := probe(1+r.Intn(20), s.Holds[0].Id, r.Intn(36), r.Intn(10))
		q, e := stow.Put(s, x)
		if slices.ContainsFunc(s.Probes, func(y api.Probe) bool { return y.Number == x.Number }) {
			if e != api.ErrProbe || !same(q, api.Ship{}) {
				t.Fatal(s, x, q, e)
			}
			return
		}
		if e != api.OK || !slices.Contains(q.Probes, x) {
			t.Fatal(s, x, q, e)
		}
		if back, e := stow.Strike(q, []int{x.Number}); e != api.OK || !same(back, s) {
			t.Fatal(s, x, q, back, e)
		}
	})
}
