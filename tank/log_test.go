package tank_test

import (
	"math/rand"
	"slices"
	"testing"

	"oilcake/api"
	"oilcake/tank"
)

// TestExamples checks the chapter's examples of logs.
func TestExamples(t *testing.T) {
	l := example()
	for at, want := range []api.Span{span(23, 40), span(38, 51), span(38, 45), span(20, 30), span(20, 30)} {
		if s, e := tank.Holds(l, at); s != want || e != api.OK {
			t.Error(at, s, e)
		}
	}
	if v, e := tank.Truth(l); !slices.Equal(v, []int{23, 38, 38, 20, 20}) || e != api.OK {
		t.Error(v, e)
	}
	for at, want := range map[int]api.Span{1: span(10, 15), 3: span(10, 20)} {
		if s, e := tank.Moved(l, at); s != want || e != api.OK {
			t.Error(at, s, e)
		}
	}
	if s, e := tank.Lost(l, 1); s != span(0, 6) || e != api.OK {
		t.Error(s, e)
	}
	if s, e := tank.Leaked(l); s != span(0, 10) || e != api.OK {
		t.Error(s, e)
	}
	for pints, want := range map[int]uint8{20: api.KnownYes, 21: api.KnownOpen, 30: api.KnownOpen, 31: api.KnownNo, 0: api.KnownYes, 100: api.KnownNo} {
		if k, e := tank.Sure(l, pints); k != want || e != api.OK {
			t.Error(pints, k, e)
		}
	}
	for pints, want := range map[int]int{38: 1, 23: 0, 24: 1, 0: 0} {
		if at, e := tank.When(l, pints); at != want || e != api.OK {
			t.Error(pints, at, e)
		}
	}
	if at, e := tank.When(l, 60); at != 0 || e != api.ErrNone {
		t.Error(at, e)
	}
	if s, e := tank.Ready(l); s != span(10, 20) || e != api.OK {
		t.Error(s, e)
	}
	if s, e := tank.Room(l); s != span(70, 80) || e != api.OK {
		t.Error(s, e)
	}
	if eighth, left, e := tank.Ask(l); eighth != 14 || left != 6 || e != api.OK {
		t.Error(eighth, left, e)
	}
	if w, e := tank.Wrong(l); len(w) > 0 || e != api.OK {
		t.Error(w, e)
	}
	more := example(entry(5, 3, 20, 24))
	if v, e := tank.Truth(more); len(v) > 0 || e != api.ErrBad {
		t.Error(v, e)
	}
	if w, e := tank.Wrong(more); !slices.Equal(w, []int{5}) || e != api.OK {
		t.Error(w, e)
	}
}

// TestWhenMore checks P3.5 by R1: that there is no time is named before pints that the tank has no room for.
func TestWhenMore(t *testing.T) {
	for pints, want := range map[int]api.Errno{100: api.ErrNone, 101: api.ErrNone, 1 << 62: api.ErrNone, -1: api.ErrArg, -1 << 62: api.ErrArg} {
		if at, e := tank.When(example(), pints); at != 0 || e != want {
			t.Error(pints, at, e)
		}
	}
}

// TestCounted checks P3.1's ErrBad, P3.3 to P3.6, P3.9 and P3.16: each result is as it is if all that can have been is counted, and each number between the ends comes about.
func TestCounted(t *testing.T) {
	some, none, wide := 0, 0, 0
	counted(1, 2500, func(r *rand.Rand, l api.Log, all []story) {
		if len(all) == 0 {
			none++
			bad(t, l)
			return
		}
		some++
		if v, e := tank.Truth(l); !slices.Equal(v, all[0].holds) || e != api.OK {
			t.Fatal(l, v, e, all[0])
		}
		n := len(l.Entries)
		for at := range n + 1 {
			same := func(s story) int { return s.holds[at] }
			if s, e := tank.Holds(l, at); s != ends(all, same) || e != api.OK || len(numbers(all, same)) != s.Hi-s.Lo+1 {
				t.Fatal(l, at, s, e, ends(all, same))
			}
		}
		for i, x := range l.Entries {
			if x.Kind != api.EntryDip {
				want := ends(all, func(s story) int { return s.moved[i] })
				if s, e := tank.Moved(l, i+1); s != want || e != api.OK {
					t.Fatal(l, i+1, s, e, want)
				}
			}
			if i > 0 {
				want := ends(all, func(s story) int { return s.lost[i] })
				if s, e := tank.Lost(l, i); s != want || e != api.OK {
					t.Fatal(l, i, s, e, want)
				}
			}
		}
		want := ends(all, story.leaked)
		if s, e := tank.Leaked(l); s != want || e != api.OK {
			t.Fatal(l, s, e, want)
		}
		if want.Lo > 0 && want.Hi > want.Lo {
			wide++
		}
		atEnd(t, l, all)
	})
	if some < 800 || none < 200 || wide < 50 {
		t.Error(some, none, wide)
	}
}

// atEnd checks what is told of pints and of the last time (P3.5, P3.6).
func atEnd(t *testing.T, l api.Log, all []story) {
	t.Helper()
	n := len(l.Entries)
	for pints := range top(l.Tank) + 1 {
		if k, e := tank.Sure(l, pints); k != sure(all, n, pints) || e != api.OK {
			t.Fatal(l, pints, k, e)
		}
		want := -1
		for at := n; at >= 0; at-- {
			if sure(all, at, pints) == api.KnownYes {
				want = at
			}
		}
		if at, e := tank.When(l, pints); want >= 0 && (at != want || e != api.OK) || want < 0 && (at != 0 || e != api.ErrNone) {
			t.Fatal(l, pints, at, e, want)
		}
	}
	foots := foots(l.Tank)
	ready := ends(all, func(s story) int { return max(0, s.holds[n]-foots) })
	if s, e := tank.Ready(l); s != ready || e != api.OK {
		t.Fatal(l, s, e, ready)
	}
	room := ends(all, func(s story) int { return top(l.Tank) - s.holds[n] })
	if s, e := tank.Room(l); s != room || e != api.OK {
		t.Fatal(l, s, e, room)
	}
	eighth, left, e := asked(l.Tank, numbers(all, func(s story) int { return s.holds[n] }))
	if a, b, f := tank.Ask(l); a != eighth || b != left || f != e {
		t.Fatal(l, a, b, f, eighth, left, e)
	}
}

// sure is what is known of whether there are at least so many pints at a time.
func sure(all []story, at, pints int) uint8 {
	n := 0
	for _, s := range all {
		if s.holds[at] >= pints {
			n++
		}
	}
	switch n {
	case 0:
		return api.KnownNo
	case len(all):
		return api.KnownYes
	}
	return api.KnownOpen
}

// leftAt is how many of some numbers an eighth leaves at most.
func leftAt(t api.Tank, l []int, eighth int) int {
	less := 0
	v := straight(t, whole(eighth))
	for _, n := range l {
		if int64(n)*v.Denom().Int64() < v.Num().Int64() {
			less++
		}
	}
	return max(less, len(l)-less)
}

// asked is what Ask tells of numbers that the tank can hold.
func asked(t api.Tank, l []int) (eighth, left int, e api.Errno) {
	if len(l) == 1 {
		return 0, 0, api.ErrNone
	}
	left = len(l) + 1
	for at := range 8*len(t.Pints) - 7 {
		if n := leftAt(t, l, at); n < left {
			eighth, left = at, n
		}
	}
	return eighth, left, api.OK
}

// bad checks that ErrBad is returned, with zero values, wherever there has to be a truth, ahead of other errors.
func bad(t *testing.T, l api.Log) {
	t.Helper()
	for _, f := range calls() {
		if slices.ContainsFunc(f.faults, func(x fault) bool { return x.e == api.ErrBad }) {
			for _, n := range []int{-1, 0, 1, 1000} {
				if r, e := f.run(args{l: l, at: n, pints: n}); e != api.ErrBad || !zero(r) {
					t.Fatal(f.name, l, n, r, e)
				}
			}
		}
	}
}

// TestAsk checks P3.6 and P3.14: no other eighth leaves fewer at worst; if any parts the numbers, fewer are left than before.
func TestAsk(t *testing.T) {
	parted, not := 0, 0
	r := rand.New(rand.NewSource(3))
	for range 3000 {
		x := small(r)
		if r.Intn(3) == 0 {
			x = great(r)
		}
		s := some(r, top(x), top(x))
		l := api.Log{Tank: x, Start: s}
		var can []int
		for n := s.Lo; n <= s.Hi; n++ {
			can = append(can, n)
		}
		eighth, left, e := tank.Ask(l)
		a, b, f := asked(x, can)
		if eighth != a || left != b || e != f {
			t.Fatal(l, eighth, left, e, a, b, f)
		}
		if e == api.OK {
			if parts := b < len(can); parts {
				parted++
			} else {
				not++
			}
			if left*2 < len(can) || leftAt(x, can, eighth) != left {
				t.Fatal(l, eighth, left)
			}
		}
	}
	if parted < 200 || not < 5 {
		t.Error(parted, not)
	}
}

// TestAskNothing checks P3.6 and P3.14 where no eighth parts the numbers, and where the first one does that there is.
func TestAskNothing(t *testing.T) {
	for hi, want := range map[int][2]int{2: {0, 2}, 74: {0, 74}, 75: {1, 74}, 76: {1, 74}, 149: {1, 75}, 150: {1, 76}} { // 75 pints an eighth
		l := api.Log{Tank: steps(0, 0, 600), Start: span(1, hi)}
		if eighth, left, e := tank.Ask(l); eighth != want[0] || left != want[1] || e != api.OK {
			t.Error(hi, eighth, left, e)
		}
	}
	l := api.Log{Tank: steps(0, 0, 600), Start: span(74, 75)}
	if eighth, left, e := tank.Ask(l); eighth != 1 || left != 1 || e != api.OK {
		t.Error(eighth, left, e)
	}
}

// link tells whether a step leads from some pints to others.
type link func(from, to int) bool

// links are the steps of a log, two for each entry: what leaks, and what it does.
func links(l api.Log) []link {
	var all []link
	for i, x := range l.Entries {
		most := 0
		if i > 0 {
			most = l.Tank.Leak * (x.Day - l.Entries[i-1].Day)
		}
		all = append(all, func(from, to int) bool { return to <= from && from-to <= most })
		size := x.Size
		switch x.Kind {
		case api.EntryFill:
			all = append(all, func(from, to int) bool { return to-from >= size.Lo && to-from <= size.Hi })
		case api.EntryDraw:
			all = append(all, func(from, to int) bool { return from-to >= size.Lo && from-to <= size.Hi })
		default:
			said := dipped(l.Tank, size)
			all = append(all, func(from, to int) bool { return from == to && said[to] })
		}
	}
	return all
}

// can are, for each step and behind the last one, all pints that lie on a way through all of them.
func can(l api.Log) []marks {
	steps := links(l)
	all := make([]marks, len(steps)+1)
	for k := range all {
		all[k] = make(marks, top(l.Tank)+1)
	}
	for n := l.Start.Lo; n <= l.Start.Hi; n++ {
		all[0][n] = true
	}
	for k, leads := range steps {
		for from, is := range all[k] {
			for to := range all[k+1] {
				all[k+1][to] = all[k+1][to] || is && leads(from, to)
			}
		}
	}
	for k := len(steps) - 1; k >= 0; k-- {
		for from, is := range all[k] {
			all[k][from] = false
			for to, ends := range all[k+1] {
				all[k][from] = all[k][from] || is && ends && steps[k](from, to)
			}
		}
	}
	return all
}

// movedBy are the least and the greatest number that a step changes the pints by.
func movedBy(l api.Log, all []marks, k int) api.Span {
	leads := links(l)[k]
	s := span(1<<40, -1)
	for from, is := range all[k] {
		for to, ends := range all[k+1] {
			if is && ends && leads(from, to) {
				n := max(from-to, to-from)
				s.Lo, s.Hi = min(s.Lo, n), max(s.Hi, n)
			}
		}
	}
	return s
}

// leakedBy are the least and the greatest number that leaks altogether, found by keeping both for all pints, step by step.
func leakedBy(l api.Log) api.Span {
	all, steps := can(l), links(l)
	now := make([]api.Span, top(l.Tank)+1)
	for k, leads := range steps {
		next := make([]api.Span, len(now))
		for to := range next {
			next[to] = span(1<<40, -1)
			for from, s := range now {
				if all[k][from] && all[k+1][to] && leads(from, to) {
					lost := 0
					if k%2 == 0 {
						lost = from - to
					}
					next[to].Lo, next[to].Hi = min(next[to].Lo, s.Lo+lost), max(next[to].Hi, s.Hi+lost)
				}
			}
		}
		now = next
	}
	s := span(1<<40, -1)
	for n, is := range all[len(steps)] {
		if is {
			s.Lo, s.Hi = min(s.Lo, now[n].Lo), max(s.Hi, now[n].Hi)
		}
	}
	return s
}

// TestGreat checks P3.3, P3.4 and P3.9 with tanks of any size and logs of up to 12 entries, by all ways through what the tank can hold.
func TestGreat(t *testing.T) {
	some, full, leaked := 0, 0, 0
	r := rand.New(rand.NewSource(4))
	for range 150 {
		x := great(r)
		l := random(r, x, 12, []int{2, 10, 60}[r.Intn(3)])
		all := can(l)
		_, is := all[len(all)-1].span()
		if s, e := tank.Holds(l, 0); is != (e == api.OK) || !is && (s != span(0, 0) || e != api.ErrBad) {
			t.Fatal(l, s, e)
		}
		if !is {
			continue
		}
		some++
		if len(l.Entries) == 12 {
			full++
		}
		for at := range len(l.Entries) + 1 {
			want, _ := all[2*at].span()
			if s, e := tank.Holds(l, at); s != want || e != api.OK {
				t.Fatal(l, at, s, e, want)
			}
		}
		for i, x := range l.Entries {
			if x.Kind != api.EntryDip {
				if s, e := tank.Moved(l, i+1); s != movedBy(l, all, 2*i+1) || e != api.OK {
					t.Fatal(l, i+1, s, e)
				}
			}
			if i > 0 {
				if s, e := tank.Lost(l, i); s != movedBy(l, all, 2*i) || e != api.OK {
					t.Fatal(l, i, s, e)
				}
			}
		}
		want := leakedBy(l)
		if s, e := tank.Leaked(l); s != want || e != api.OK {
			t.Fatal(l, s, e, want)
		}
		if want.Lo > 0 {
			leaked++
		}
	}
	if some < 40 || full < 3 || leaked < 10 {
		t.Error(some, full, leaked)
	}
}

// TestLongest checks P3.4 and R5 at the ends of what is allowed: ten years of the greatest leak take no more than there is.
func TestLongest(t *testing.T) {
	l := api.Log{Tank: steps(50, 0, 600), Start: span(0, 600), Entries: []api.Entry{entry(0, 1, 0, 600), entry(3652, 3, 0, 8)}}
	if s, e := tank.Lost(l, 1); s != span(0, 600) || e != api.OK {
		t.Error(s, e)
	}
	l.Entries[1].Size = span(0, 0)
	if s, e := tank.Leaked(l); s != span(0, 600) || e != api.OK {
		t.Error(s, e)
	}
	l.Start = span(600, 600)
	if s, e := tank.Leaked(l); s != span(600, 600) || e != api.OK {
		t.Error(s, e)
	}
	l.Tank.Leak = 0
	bad(t, l)
}

// TestStartLeaksNothing checks what a truth is (P3.3): nothing leaks before the first entry, whatever its day.
func TestStartLeaksNothing(t *testing.T) {
	l := api.Log{Tank: table(), Start: span(50, 50), Entries: []api.Entry{entry(3652, 2, 10, 10)}}
	if v, e := tank.Truth(l); !slices.Equal(v, []int{50, 40}) || e != api.OK {
		t.Error(v, e)
	}
	if s, e := tank.Leaked(l); s != span(0, 0) || e != api.OK {
		t.Error(s, e)
	}
}

// TestBrim checks what a truth is (P3.3): no more is filled in than a full tank holds, no more is drawn than there is, also of what leaked before.
func TestBrim(t *testing.T) {
	l := api.Log{Tank: table(), Start: span(90, 95), Entries: []api.Entry{entry(0, 1, 0, 20)}}
	if s, e := tank.Moved(l, 1); s != span(0, 10) || e != api.OK {
		t.Error(s, e)
	}
	l.Entries[0].Size.Lo = 11
	bad(t, l)
	l.Entries = []api.Entry{entry(0, 1, 0, 0), entry(1, 1, 11, 20)} // two pints leak, one at least
	if s, e := tank.Lost(l, 1); s != span(1, 2) || e != api.OK {
		t.Error(s, e)
	}
	l = api.Log{Tank: table(), Start: span(0, 5), Entries: []api.Entry{entry(0, 3, 0, 32), entry(1, 2, 3, 20)}}
	if s, e := tank.Moved(l, 2); s != span(3, 5) || e != api.OK {
		t.Error(s, e)
	}
	if s, e := tank.Holds(l, 1); s != span(3, 5) || e != api.OK {
		t.Error(s, e)
	}
	l.Entries[1].Size = span(6, 20)
	bad(t, l)
}

// TestOneDipMore checks P3.10: a dip more, at any time, never widens what is known of a time, of an entry, and of what leaked.
func TestOneDipMore(t *testing.T) {
	narrower := 0
	r := rand.New(rand.NewSource(5))
	for range 1500 {
		l := random(r, small(r), 6, 5)
		place := r.Intn(len(l.Entries) + 1)
		day := r.Intn(3)
		switch {
		case place < len(l.Entries): // not earlier than the first one: what leaks before it would be another thing
			day = l.Entries[place].Day
		case place > 0:
			day = l.Entries[place-1].Day + r.Intn(3)
		}
		h, e := tank.Holds(l, 0)
		if e != api.OK {
			continue
		}
		k := inserted(l, place, api.Entry{Day: day, Kind: api.EntryDip, Size: some(r, 8*len(l.Tank.Pints)-8, 20)})
		if s, e := tank.Holds(k, 0); e != api.OK {
			continue
		} else if s != h {
			narrower++
		}
		now := func(at int) int { // where a time is behind the dip
			if at > place {
				return at + 1
			}
			return at
		}
		for at := range len(l.Entries) + 1 {
			a, _ := tank.Holds(l, at)
			b, _ := tank.Holds(k, now(at))
			inside(t, l, k, a, b)
			if at > 0 && l.Entries[at-1].Kind != api.EntryDip {
				a, _ = tank.Moved(l, at)
				b, _ = tank.Moved(k, now(at))
				inside(t, l, k, a, b)
			}
			if at > 0 && at < len(l.Entries) && at != place {
				a, _ = tank.Lost(l, at)
				b, _ = tank.Lost(k, now(at))
				inside(t, l, k, a, b)
			}
		}
		if place < len(l.Entries) {
			a, _ := tank.Leaked(l)
			b, _ := tank.Leaked(k)
			inside(t, l, k, a, b)
		}
	}
	if narrower < 100 {
		t.Error(narrower)
	}
}

// inside checks that a span is not wider than it was.
func inside(t *testing.T, before, after api.Log, a, b api.Span) {
	t.Helper()
	if b.Lo < a.Lo || b.Hi > a.Hi {
		t.Fatal(before, after, a, b)
	}
}

// TestBalance checks P3.12: what is in the tank at the end is what was there, with what was filled in, less what was drawn and what leaked; no end of a span can be had with less, or more.
func TestBalance(t *testing.T) {
	r := rand.New(rand.NewSource(6))
	some := 0
	for range 600 {
		l := random(r, great(r), 12, 20)
		s, e := tank.Holds(l, 0)
		if e != api.OK {
			continue
		}
		some++
		for i, x := range l.Entries {
			m, _ := tank.Moved(l, i+1)
			switch x.Kind {
			case api.EntryFill:
				s = span(s.Lo+m.Lo, s.Hi+m.Hi)
			case api.EntryDraw:
				s = span(s.Lo-m.Hi, s.Hi-m.Lo)
			}
		}
		leaked, _ := tank.Leaked(l)
		last, _ := tank.Holds(l, len(l.Entries))
		inside(t, l, l, span(s.Lo-leaked.Hi, s.Hi-leaked.Lo), last)
		sum := api.Span{}
		for at := 1; at < len(l.Entries); at++ {
			lost, _ := tank.Lost(l, at)
			sum = span(sum.Lo+lost.Lo, sum.Hi+lost.Hi)
		}
		inside(t, l, l, sum, leaked)
	}
	if some < 100 {
		t.Error(some)
	}
	// with nothing open the ends are one
	l := api.Log{Tank: table(), Start: span(40, 40), Entries: []api.Entry{entry(0, 1, 30, 30), entry(4, 2, 20, 20), entry(5, 3, 22, 22)}}
	leaked, e := tank.Leaked(l)
	last, _ := tank.Holds(l, 3)
	if e != api.ErrBad || last != span(0, 0) { // 22 eighths are 52 pints and a half
		t.Error(leaked, last, e)
	}
	l.Entries[2].Size = span(20, 20)
	leaked, e = tank.Leaked(l)
	if last, _ = tank.Holds(l, 3); leaked != span(5, 5) || last != span(45, 45) || e != api.OK {
		t.Error(leaked, last, e)
	}
}

// TestNothingDrawn checks P3.15: a drawing of nothing, on the day of the last entry, leaves all as it was; what may be drawn and the room are what a full tank holds above the foots.
func TestNothingDrawn(t *testing.T) {
	r := rand.New(rand.NewSource(7))
	some := 0
	for range 500 {
		l := random(r, great(r), 11, 20)
		n := len(l.Entries)
		day := 5
		if n > 0 {
			day = l.Entries[n-1].Day
		}
		k, e := tank.Add(l, entry(day, api.EntryDraw, 0, 0))
		if e != api.OK {
			t.Fatal(l, e)
		}
		before, e := facts(l, n)
		after, f := facts(k, n)
		if e != f || !slices.Equal(before, after) {
			t.Fatal(l, before, e, after, f)
		}
		if e != api.OK {
			continue
		}
		last, _ := tank.Holds(l, n)
		if again, _ := tank.Holds(k, n+1); again != last {
			t.Fatal(l, last, again)
		}
		if moved, _ := tank.Moved(k, n+1); moved != span(0, 0) {
			t.Fatal(l, moved)
		}
		foots := foots(l.Tank)
		ready, _ := tank.Ready(l)
		room, _ := tank.Room(l)
		if last.Lo >= foots {
			some++
			if ready.Lo+room.Hi != top(l.Tank)-foots || ready.Hi+room.Lo != top(l.Tank)-foots {
				t.Fatal(l, ready, room)
			}
		}
		if last.Lo < foots && ready.Lo != 0 || last.Hi < foots && ready.Hi != 0 {
			t.Fatal(l, ready)
		}
	}
	if some < 50 {
		t.Error(some)
	}
}

// facts are what is known of the first n entries of a log, and of its end.
func facts(l api.Log, n int) ([]api.Span, api.Errno) {
	var all []api.Span
	for at := range n + 1 {
		s, e := tank.Holds(l, at)
		if e != api.OK {
			return nil, e
		}
		all = append(all, s)
		s, _ = tank.Moved(l, at)
		all = append(all, s)
		if at < n {
			s, _ = tank.Lost(l, at)
			all = append(all, s)
		}
	}
	for _, f := range []func(api.Log) (api.Span, api.Errno){tank.Leaked, tank.Ready, tank.Room} {
		s, _ := f(l)
		all = append(all, s)
	}
	eighth, left, _ := tank.Ask(l)
	k, _ := tank.Sure(l, all[0].Lo)
	return append(all, span(eighth, left), span(int(k), 0)), api.OK
}
