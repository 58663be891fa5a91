package can_test

import (
	"math/rand"
	"slices"
	"testing"

	"oilcake/api"
	"oilcake/can"
	"oilcake/tank"
)

// TestBegin checks P8.6: the cans are empty, and as Stock they have what may be drawn for sure.
func TestBegin(t *testing.T) {
	if c, e := can.Begin(tun(), ints(3, 5)); !same(c, empty(10, 3, 5)) || e != api.OK {
		t.Error(c, e)
	}
	if c, e := can.Begin(tun(), ints(20)); !same(c, empty(10, 20)) || e != api.OK {
		t.Error(c, e)
	}
	foots := tun()
	foots.Tank.Foot = 20 // 45 pints
	if c, e := can.Begin(foots, ints(1, 20, 1)); !same(c, empty(0, 1, 20, 1)) || e != api.OK {
		t.Error(c, e)
	}
	full := api.Log{Tank: api.Tank{Pints: ints(0, 600)}, Start: span(600, 600)}
	if c, e := can.Begin(full, ints(7, 7)); !same(c, empty(600, 7, 7)) || e != api.OK {
		t.Error(c, e)
	}
}

// TestWrittenExamples checks P8.7: what is poured from the tank is drawn, what is poured into it is filled, on the last day; what is poured over is not written.
func TestWrittenExamples(t *testing.T) {
	none := tun()
	none.Entries = nil
	late := tun()
	late.Entries = []api.Entry{entry(3652, 2, 0, 0)}
	c := empty(10, 3, 5)
	for _, x := range []struct {
		log  api.Log
		c    api.Cans
		l    []api.Pouring
		more []api.Entry
	}{
		{tun(), c, pours(0, 2, 2, 1), []api.Entry{entry(5, 2, 5, 5)}}, {tun(), c, nil, nil}, {tun(), cans(10, ints(3, 5), ints(2, 2)), pours(1, 2, 2, 1), nil},
		{tun(), c, pours(0, 2, 2, 1, 2, 0, 0, 2, 1, 0), []api.Entry{entry(5, 2, 5, 5), entry(5, 1, 2, 2), entry(5, 2, 5, 5), entry(5, 1, 3, 3)}},
		{tun(), cans(10, ints(3, 5), ints(1, 4)), pours(0, 1, 2, 0), []api.Entry{entry(5, 2, 2, 2), entry(5, 1, 4, 4)}},
		{none, c, pours(0, 1), []api.Entry{entry(0, 2, 3, 3)}}, {none, c, pours(0, 1, 1, 0), []api.Entry{entry(0, 2, 3, 3), entry(0, 1, 3, 3)}}, {late, c, pours(0, 1), []api.Entry{entry(3652, 2, 3, 3)}},
		{tun(), c, slices.Repeat(pours(0, 1, 1, 2, 2, 0), 4), slices.Repeat([]api.Entry{entry(5, 2, 3, 3), entry(5, 1, 3, 3)}, 4)},
		// Cans that were not begun at this tank: the log is valid, and has no truth.
		{tun(), empty(100, 20, 20), pours(0, 1, 0, 2), []api.Entry{entry(5, 2, 20, 20), entry(5, 2, 20, 20)}},
	} {
		want := copiedLog(x.log)
		want.Entries = append(want.Entries, x.more...)
		if k, e := can.Written(x.log, x.c, x.l); !sameLog(k, want) || e != api.OK {
			t.Error(x, k, e)
		}
	}
	bad := tun()
	bad.Entries[1].Size = span(31, 32) // it has no truth
	want := copiedLog(bad)
	want.Entries = append(want.Entries, entry(5, 2, 5, 5))
	if k, e := can.Written(bad, c, pours(0, 2)); !sameLog(k, want) || e != api.OK {
		t.Error(k, e)
	}
}

// written is a log with an entry more for each pouring that can be from the tank, or into it.
func written(l api.Log, c api.Cans, p []api.Pouring) api.Log {
	l = copiedLog(l)
	day := 0
	for _, x := range l.Entries {
		day = x.Day
	}
	for _, x := range p {
		d, back, _ := poured(c, x)
		switch {
		case x.From == 0:
			l.Entries = append(l.Entries, entry(day, 2, c.Stock-d.Stock, c.Stock-d.Stock))
		case x.To == 0:
			l.Entries = append(l.Entries, entry(day, 1, back, back))
		}
		c = d
	}
	return l
}

// randomLog is a log, often with a truth, of a tank that is large enough for some cans, or small.
func randomLog(r *rand.Rand, inch int) api.Log {
	t := api.Tank{Pints: ints(0), Leak: r.Intn(3)}
	for i := range 1 + r.Intn(4) {
		t.Pints = append(t.Pints, t.Pints[i]+1+r.Intn(inch))
	}
	full := t.Pints[len(t.Pints)-1]
	t.Foot = r.Intn(9)
	low := r.Intn(full + 1)
	l := api.Log{Tank: t, Start: span(low, min(full, low+r.Intn(4)))}
	day := r.Intn(3)
	for range r.Intn(4) {
		day += r.Intn(3)
		n := r.Intn(full/2 + 1)
		l.Entries = append(l.Entries, entry(day, 1+r.Intn(2), n, min(full, n+r.Intn(3))))
	}
	return l
}

// truths are all truths of a log of fillings and drawings, pint by pint.
func truths(l api.Log) [][]int {
	full := l.Tank.Pints[len(l.Tank.Pints)-1]
	var all [][]int
	var holds []int
	var next func()
	next = func() {
		i := len(holds) - 1
		if i == len(l.Entries) {
			all = append(all, slices.Clone(holds))
			return
		}
		x, leak := l.Entries[i], 0
		if i > 0 {
			leak = l.Tank.Leak * (x.Day - l.Entries[i-1].Day)
		}
		left := map[int]bool{}
		for lost := range leak + 1 {
			for size := x.Size.Lo; size <= x.Size.Hi; size++ {
				had := holds[i] - lost
				after := had + size
				if x.Kind == 2 {
					after = had - size
				}
				if had >= 0 && after >= 0 && after <= full {
					left[after] = true
				}
			}
		}
		for n := range full + 1 {
			if left[n] {
				holds = append(holds, n)
				next()
				holds = holds[:i+1]
			}
		}
	}
	for n := l.Start.Lo; n <= l.Start.Hi; n++ {
		holds = ints(n)
		next()
	}
	return all
}

// begun calls back with logs, with cans that are begun there, and with pourings that can be and that the log has room for.
func begun(seed int64, times, inch int, f func(r *rand.Rand, l api.Log, c api.Cans, p []api.Pouring)) {
	r := rand.New(rand.NewSource(seed))
	for times > 0 {
		l := randomLog(r, inch)
		var sizes []int
		for range 1 + r.Intn(3) {
			sizes = append(sizes, 1+r.Intn(min(20, inch)))
		}
		c, e := can.Begin(l, sizes)
		if e != api.OK {
			continue
		}
		p := stroll(r, c, r.Intn(14))
		for len(written(l, c, p).Entries) > 12 {
			p = p[:len(p)-1]
		}
		f(r, l, c, p)
		times--
	}
}

// TestWritten checks P8.6, P8.7 and P8.15: the log has the entries of what was poured, a truth, and in each truth the tank holds so much less as there is in the cans.
func TestWritten(t *testing.T) {
	filled := 0
	begun(41, 600, 20, func(r *rand.Rand, l api.Log, c api.Cans, p []api.Pouring) {
		ready, e := tank.Ready(l)
		if e != api.OK || c.Stock != ready.Lo || sum(c.In) != 0 {
			t.Fatal(l, c, ready, e)
		}
		k, e := can.Written(l, c, p)
		if !sameLog(k, written(l, c, p)) || e != api.OK {
			t.Fatal(l, c, p, k, e)
		}
		d, _ := play(t, c, p)
		before, e := tank.Holds(l, len(l.Entries))
		after, f := tank.Holds(k, len(k.Entries))
		there, g := tank.Holds(k, len(l.Entries))
		lacks := sum(d.In)
		if e != api.OK || f != api.OK || g != api.OK || there != before || after != span(before.Lo-lacks, before.Hi-lacks) {
			t.Fatal(l, c, p, before, after, there, lacks, e, f, g)
		}
		for at := len(l.Entries) + 1; at <= len(k.Entries); at++ {
			if s, e := tank.Moved(k, at); s != k.Entries[at-1].Size || e != api.OK {
				t.Fatal(k, at, s, e)
			}
		}
		if _, e := tank.Truth(k); e != api.OK {
			t.Fatal(l, c, p, e)
		}
		if lacks > 0 && slices.ContainsFunc(p, func(x api.Pouring) bool { return x.To == 0 }) {
			filled++
		}
	})
	if filled < 100 {
		t.Error(filled)
	}
}

// TestWrittenTruths checks P8.15 in each truth of small tanks, counted pint by pint.
func TestWrittenTruths(t *testing.T) {
	count := 0
	begun(42, 700, 6, func(r *rand.Rand, l api.Log, c api.Cans, p []api.Pouring) {
		k, e := can.Written(l, c, p)
		if e != api.OK {
			t.Fatal(l, c, p, e)
		}
		d, _ := play(t, c, p)
		was, is := truths(l), truths(k)
		if len(is) == 0 || len(is) != len(was) {
			t.Fatal(l, c, p, len(is), len(was))
		}
		for i, x := range is {
			n := len(l.Entries)
			if !slices.Equal(x[:n+1], was[i]) || x[n]-x[len(x)-1] != sum(d.In) {
				t.Fatal(l, c, p, x, was[i], d)
			}
		}
		if sum(d.In) > 0 {
			count++
		}
	})
	if count < 100 {
		t.Error(count)
	}
}
