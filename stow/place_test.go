package stow_test

import (
	"math/rand"
	"slices"
	"testing"

	"oilcake/api"
	"oilcake/stow"
)

// TestPlaceExamples checks P5.5 by the chapter's examples.
func TestPlaceExamples(t *testing.T) {
	s := example()
	for hold, want := range map[int]api.Place{1: place(1, 4), 2: place(1, 3)} {
		if l, e := stow.Decide(s, hold); !slices.Equal(l, []api.Place{want}) || e != api.OK {
			t.Error(hold, l, e)
		}
		if p, n, e := stow.Next(s, hold); p != place(1, 4) || n != 1 || e != api.OK {
			t.Error(hold, p, n, e)
		}
	}
	s.Limit = 100
	if l, e := stow.Decide(s, 1); len(l) != 0 || e != api.OK {
		t.Error(l, e)
	}
	if p, n, e := stow.Next(s, 1); p != (api.Place{}) || n != 0 || e != api.ErrNone {
		t.Error(p, n, e)
	}
}

// judge is what tells of some places whether they decide: of no two ways in which they show the same one only is within the limit.
func judge(s api.Ship, hold int) func(l ...api.Place) bool {
	piles := piles(s)
	marks := map[api.Place][]int{}
	for _, p := range places(s) {
		for _, x := range piles {
			marks[p] = append(marks[p], x.bag(p).Mark)
		}
	}
	var within []uint8 // 1, or 2 if it is not
	for _, x := range piles {
		is := uint8(2)
		if x.keeps(s, hold) {
			is = 1
		}
		within = append(within, is)
	}
	return func(l ...api.Place) bool {
		var rows [3][]int
		for i, p := range l {
			rows[i] = marks[p]
		}
		var seen [1000]uint8 // which of both was there with these marks
		for i, is := range within {
			show := 0
			for _, row := range rows[:len(l)] {
				show = 10*show + row[i]
			}
			if seen[show]+is == 3 {
				return false
			}
			seen[show] = is
		}
		return true
	}
}

// decide is the first list that decides, of all lists of at most three places.
func decide(s api.Ship, hold int) ([]api.Place, api.Errno) {
	is, all := judge(s, hold), places(s)
	if is() {
		return nil, api.OK
	}
	for _, p := range all {
		if is(p) {
			return []api.Place{p}, api.OK
		}
	}
	for i, p := range all {
		for _, q := range all[i+1:] {
			if is(p, q) {
				return []api.Place{p, q}, api.OK
			}
		}
	}
	for i, p := range all {
		for k, q := range all[i+1:] {
			for _, x := range all[i+k+2:] {
				if is(p, q, x) {
					return []api.Place{p, q, x}, api.OK
				}
			}
		}
	}
	return nil, api.ErrNone
}

// checkDecides checks P5.5 and P5.9: no list before is told, and whatever its places show, the verdict is decided then.
func checkDecides(t *testing.T, s api.Ship, hold int) (int, api.Errno) {
	want, f := decide(s, hold)
	l, e := stow.Decide(s, hold)
	if !slices.Equal(l, want) || e != f {
		t.Fatal(s, hold, l, e, want, f)
	}
	if e == api.OK && len(s.Probes)+len(l) <= 10 {
		checkShown(t, s, hold, l)
	}
	return len(l), e
}

// checkShown checks that the verdict is decided with whatever some places show.
func checkShown(t *testing.T, s api.Ship, hold int, l []api.Place) {
	if len(l) == 0 {
		if v, e := stow.Verdict(s, hold); (v == api.KnownOpen || e != api.OK) && e != api.ErrBad {
			t.Fatal(s, hold, v, e)
		}
		return
	}
	for mark := range 10 {
		q, e := stow.Put(s, probe(9990+len(l), l[0].Hold, l[0].Depth, mark))
		if e != api.OK {
			t.Fatal(s, l, mark, e)
		}
		checkShown(t, q, hold, l[1:])
	}
}

// TestDecide checks P5.5 and P5.9 of small ships, by all lists there are.
func TestDecide(t *testing.T) {
	lengths, none := map[int]int{}, 0
	ships(8, 900, 12, func(r *rand.Rand, s api.Ship) {
		hold := s.Holds[r.Intn(len(s.Holds))].Id
		n, e := checkDecides(t, s, hold)
		if e == api.OK {
			lengths[n]++
		} else {
			none++
		}
	})
	if lengths[0] < 100 || lengths[1] < 100 || lengths[2] < 30 || lengths[3] < 1 || none < 50 {
		t.Error(lengths, none)
	}
}

// TestDecideGreat checks P5.5 and P5.9 of ships as great as they can be.
func TestDecideGreat(t *testing.T) {
	lengths, none := map[int]int{}, 0
	r := rand.New(rand.NewSource(9))
	for range 60 {
		n, e := checkDecides(t, full(r), 1+r.Intn(3))
		if e == api.OK {
			lengths[n]++
		} else {
			none++
		}
	}
	if lengths[1] < 5 || lengths[2] < 5 || lengths[3] < 5 || none < 5 {
		t.Error(lengths, none)
	}
}

// TestDecideMarks checks P5.5: bags of one mark show the same, whatever lot they are of, and what lies nowhere shows, too.
func TestDecideMarks(t *testing.T) {
	s := api.Ship{Holds: holds(36, 36), Lots: []api.Lot{lot(1, 3, 5, 0), lot(2, 3, 5, 5)}}
	if l, e := stow.Decide(s, 1); len(l) != 0 || e != api.ErrNone {
		t.Error(l, e)
	}
	if p, n, e := stow.Next(s, 1); p != place(1, 0) || n != 3 || e != api.OK { // nothing lies there, or 3 in three ways
		t.Error(p, n, e)
	}
	s.Lots[1].Bags = 6
	if l, e := stow.Decide(s, 1); !slices.Equal(l, []api.Place{place(1, 5)}) || e != api.OK {
		t.Error(l, e)
	}
	if p, n, e := stow.Next(s, 1); p != place(1, 5) || n != 2 || e != api.OK {
		t.Error(p, n, e)
	}
	s.Lots[1].Bags, s.Lots[1].Mark = 5, 4
	if l, e := stow.Decide(s, 2); !slices.Equal(l, []api.Place{place(1, 0)}) || e != api.OK { // the lot 2, or not: it lies on the other one
		t.Error(l, e)
	}
}

// TestDecideAlike checks P5.5 and P5.9 of ships with lots of one size, of which every second one is dirty: each hold has to be known lot by lot.
func TestDecideAlike(t *testing.T) {
	lots := func(n int) api.Ship {
		s := api.Ship{Holds: holds(36, 36, 36), Limit: 50}
		for i := range n {
			s.Lots = append(s.Lots, lot(i+1, 1+i, 3, 1+i%2*2))
		}
		return s
	}
	for n := 1; n <= 5; n++ {
		for hold := 1; hold <= 3; hold++ {
			checkDecides(t, lots(n), hold)
		}
	}
}

// checkNext checks P5.5 and P5.12: no place leaves fewer ways at most, and none before it as few.
func checkNext(t *testing.T, s api.Ship, hold int) {
	piles := piles(s)
	var best api.Place
	left := len(piles) + 1
	for _, p := range places(s) {
		counts := map[int]int{}
		most := 0
		for _, x := range piles {
			mark := x.bag(p).Mark
			counts[mark]++
			most = max(most, counts[mark])
		}
		if most < left {
			best, left = p, most
		}
	}
	p, n, e := stow.Next(s, hold)
	if p != best || n != left || n > len(piles) || e != api.OK {
		t.Fatal(s, hold, p, n, e, best, left)
	}
}

// TestNext checks P5.5 and P5.12 of ships of any size, if the verdict is open.
func TestNext(t *testing.T) {
	open := 0
	check := func(r *rand.Rand, s api.Ship) {
		hold := s.Holds[r.Intn(len(s.Holds))].Id
		if v, _ := stow.Verdict(s, hold); v == api.KnownOpen {
			checkNext(t, s, hold)
			open++
		} else if p, n, e := stow.Next(s, hold); p != (api.Place{}) || n != 0 || e != api.ErrNone {
			t.Fatal(s, hold, p, n, e)
		}
	}
	ships(10, 900, 36, check)
	r := rand.New(rand.NewSource(11))
	for range 40 {
		check(r, full(r))
	}
	if open < 250 {
		t.Error(open)
	}
}
