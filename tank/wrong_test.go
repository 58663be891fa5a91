package tank_test

import (
	"math/bits"
	"math/rand"
	"slices"
	"testing"

	"oilcake/api"
	"oilcake/tank"
)

// fewest are the fewest dips without which there is a truth, set by set.
func fewest(l api.Log) ([]int, api.Errno) {
	var best []int
	found := false
	for set := range 1 << len(l.Entries) {
		times := []int{}
		dips := true
		for i, x := range l.Entries {
			if set>>i&1 == 1 {
				times = append(times, i+1)
				dips = dips && x.Kind == api.EntryDip
			}
		}
		if !dips || found && (bits.OnesCount(uint(set)) > len(best) || len(times) == len(best) && slices.Compare(times, best) > 0) {
			continue
		}
		if len(stories(dropped(l, times...))) > 0 {
			best, found = times, true
		}
	}
	if !found {
		return nil, api.ErrNone
	}
	return best, api.OK
}

// TestWrong checks P3.7 and P3.13: without the dips that are told there is a truth, without fewer, or others before them, none.
func TestWrong(t *testing.T) {
	lengths, none := map[int]int{}, 0
	r := rand.New(rand.NewSource(8))
	for range 2500 {
		l := random(r, small(r), 5, 3)
		for range r.Intn(4) { // some dips more, of which any may be false
			place := r.Intn(len(l.Entries) + 1)
			day := 0
			if place > 0 {
				day = l.Entries[place-1].Day
			}
			l = inserted(l, place, api.Entry{Day: day, Kind: api.EntryDip, Size: some(r, 8*len(l.Tank.Pints)-8, 6)})
		}
		want, e := fewest(l)
		if w, f := tank.Wrong(l); !slices.Equal(w, want) || f != e {
			t.Fatal(l, w, f, want, e)
		}
		if e == api.OK {
			lengths[len(want)]++
		} else {
			none++
		}
	}
	for n := range 4 {
		if lengths[n] < 10 {
			t.Error(lengths)
		}
	}
	if none < 30 {
		t.Error(none)
	}
}

// TestWrongAlone checks P3.7: a dip can be needed so that something leaks behind it; dips that say no pints are false; fillings and drawings are never.
func TestWrongAlone(t *testing.T) {
	log := func(start api.Span, l ...api.Entry) api.Log {
		return api.Log{Tank: table(), Start: start, Entries: l}
	}
	cases := []struct {
		l    api.Log
		want []int
		e    api.Errno
	}{
		{log(span(0, 100)), nil, api.OK},
		{log(span(100, 100), entry(0, 3, 32, 32), entry(5, 1, 10, 10)), nil, api.OK},
		{log(span(100, 100), entry(5, 1, 10, 10)), nil, api.ErrNone},
		{log(span(100, 100), entry(0, 3, 31, 31), entry(5, 1, 10, 10)), nil, api.ErrNone},
		// either of both first dips is false, and the other one is needed
		{log(span(90, 100), entry(0, 3, 32, 32), entry(0, 3, 31, 31), entry(5, 1, 10, 10)), []int{1}, api.OK},
		{log(span(99, 100), entry(0, 3, 32, 32), entry(0, 3, 31, 31), entry(5, 1, 10, 10)), []int{2}, api.OK},
		{log(span(0, 100), entry(0, 3, 9, 9)), []int{1}, api.OK},
		{log(span(0, 100), entry(0, 3, 9, 9), entry(0, 3, 8, 8), entry(0, 3, 17, 17)), []int{1, 3}, api.OK},
		{log(span(0, 5), entry(0, 2, 6, 6)), nil, api.ErrNone},
		{log(span(0, 5), entry(0, 3, 0, 8), entry(0, 2, 6, 6)), nil, api.ErrNone},
	}
	for i, x := range cases {
		if w, e := tank.Wrong(x.l); !slices.Equal(w, x.want) || e != x.e {
			t.Error(i, w, e)
		}
	}
	all := log(span(50, 50))
	var want []int
	for i := range 12 {
		all.Entries = append(all.Entries, entry(0, 3, i, i))
		want = append(want, i+1)
	}
	if w, e := tank.Wrong(all); !slices.Equal(w, want) || e != api.OK {
		t.Error(w, e)
	}
}

// TestAdd checks P3.8: the entry comes last, and the log may have no truth then.
func TestAdd(t *testing.T) {
	for _, x := range []api.Entry{entry(5, 1, 0, 100), entry(5, 2, 100, 100), entry(3652, 3, 0, 32), entry(6, 3, 9, 9)} {
		if l, e := tank.Add(example(), x); !same(l, example(x)) || e != api.OK {
			t.Error(x, l, e)
		}
	}
	for _, x := range []api.Entry{entry(4, 1, 0, 100), entry(3653, 1, 0, 100), entry(5, 0, 0, 0), entry(5, 4, 0, 0), entry(5, 1, 0, 101), entry(5, 3, 0, 33), entry(5, 2, 2, 1), entry(5, 2, -1, 1)} {
		if l, e := tank.Add(example(), x); !same(l, api.Log{}) || e != api.ErrEntry {
			t.Error(x, l, e)
		}
	}
	l := example()
	for len(l.Entries) < 12 {
		n := len(l.Entries)
		k, e := tank.Add(l, entry(5+n/6, 1, 0, 0))
		if e != api.OK || len(k.Entries) != n+1 || len(l.Entries) != n {
			t.Fatal(k, e)
		}
		l = k
	}
	if k, e := tank.Add(l, entry(20, 1, 0, 0)); !same(k, api.Log{}) || e != api.ErrFull {
		t.Error(k, e)
	}
	if k, e := tank.Add(l, entry(-1, 7, 5, 0)); !same(k, api.Log{}) || e != api.ErrFull {
		t.Error(k, e)
	}
}

// TestStrike checks P3.8: the entries of just these times go.
func TestStrike(t *testing.T) {
	for set := range 1 << 4 {
		var times []int
		for i := range 4 {
			if set>>i&1 == 1 {
				times = append(times, i+1)
			}
		}
		if l, e := tank.Strike(example(), times); !same(l, dropped(example(), times...)) || e != api.OK {
			t.Error(times, l, e)
		}
	}
	for _, times := range [][]int{{0}, {5}, {-1}, {1, 1}, {2, 1}, {1, 3, 2}, {1, 2, 3, 4, 5}, {0, 1}} {
		if l, e := tank.Strike(example(), times); !same(l, api.Log{}) || e != api.ErrEntry {
			t.Error(times, l, e)
		}
	}
	if l, e := tank.Strike(example(entry(5, 3, 20, 24)), []int{5}); !same(l, example()) || e != api.OK {
		t.Error(l, e)
	}
	// without the first dip there is no truth any more, and the log is valid
	l := api.Log{Tank: table(), Start: span(100, 100), Entries: []api.Entry{entry(0, 3, 32, 32), entry(5, 1, 10, 10)}}
	k, e := tank.Strike(l, []int{1})
	if v := tank.Valid(k); e != api.OK || v != api.OK {
		t.Error(k, e, v)
	}
	bad(t, k)
}
