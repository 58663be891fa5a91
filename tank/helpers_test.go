package tank_test

import (
	"math/big"
	"math/rand"
	"slices"

	"oilcake/api"
)

func span(lo, hi int) api.Span { return api.Span{Lo: lo, Hi: hi} }

func part(num, den int) api.Part { return api.Part{Num: num, Den: den} }

func entry(day, kind, lo, hi int) api.Entry {
	return api.Entry{Day: day, Kind: kind, Size: span(lo, hi)}
}

// table is the tank of the chapter's examples.
func table() api.Tank {
	return api.Tank{Pints: []int{0, 10, 30, 60, 100}, Leak: 2, Foot: 8}
}

// example is the log of the chapter's examples, with some entries more.
func example(more ...api.Entry) api.Log {
	l := []api.Entry{entry(0, 1, 10, 15), entry(3, 3, 18, 20), entry(5, 2, 10, 20), entry(5, 3, 12, 16)}
	return api.Log{Tank: table(), Start: span(20, 40), Entries: append(l, more...)}
}

// steps is a tank that holds so many pints more at each inch.
func steps(leak, foot int, more ...int) api.Tank {
	t := api.Tank{Pints: []int{0}, Leak: leak, Foot: foot}
	for i, n := range more {
		t.Pints = append(t.Pints, t.Pints[i]+n)
	}
	return t
}

// copied is a log of its own memory.
func copied(l api.Log) api.Log {
	l.Tank.Pints, l.Entries = slices.Clone(l.Tank.Pints), slices.Clone(l.Entries)
	return l
}

// inserted is a log with an entry more, just before the one that is at a place.
func inserted(l api.Log, place int, x api.Entry) api.Log {
	k := copied(l)
	k.Entries = slices.Insert(k.Entries, place, x)
	return k
}

// dropped is a log without the entries of some times.
func dropped(l api.Log, times ...int) api.Log {
	k := copied(l)
	k.Entries = nil
	for i, x := range l.Entries {
		if !slices.Contains(times, i+1) {
			k.Entries = append(k.Entries, x)
		}
	}
	return k
}

func same(a, b api.Log) bool {
	return slices.Equal(a.Tank.Pints, b.Tank.Pints) && a.Tank.Leak == b.Tank.Leak && a.Tank.Foot == b.Tank.Foot && a.Start == b.Start && slices.Equal(a.Entries, b.Entries)
}

func top(t api.Tank) int { return t.Pints[len(t.Pints)-1] }

func rat(p api.Part) *big.Rat { return big.NewRat(int64(p.Num), int64(p.Den)) }

// straight is what a tank holds at any eighth, whole or not, by the two inches next to it.
func straight(t api.Tank, eighth *big.Rat) *big.Rat {
	for i := range len(t.Pints) - 1 {
		low, high := big.NewRat(int64(8*i), 1), big.NewRat(int64(8*i+8), 1)
		if eighth.Cmp(low) >= 0 && eighth.Cmp(high) <= 0 {
			share := new(big.Rat).Quo(new(big.Rat).Sub(eighth, low), big.NewRat(8, 1))
			wide := big.NewRat(int64(t.Pints[i+1]-t.Pints[i]), 1)
			return share.Add(share.Mul(share, wide), big.NewRat(int64(t.Pints[i]), 1))
		}
	}
	return nil
}

func whole(n int) *big.Rat { return big.NewRat(int64(n), 1) }

// foots are the pints of the foots of a tank.
func foots(t api.Tank) int {
	n := 0
	for whole(n).Cmp(straight(t, whole(t.Foot))) < 0 {
		n++
	}
	return n
}

// dipped are all numbers of pints of which it is told whether they are what a dip says.
func dipped(t api.Tank, dip api.Span) marks {
	lo, hi := straight(t, whole(dip.Lo)), straight(t, whole(dip.Hi))
	said := make(marks, top(t)+1)
	for n := range said {
		said[n] = lo.Cmp(whole(n)) <= 0 && hi.Cmp(whole(n)) >= 0
	}
	return said
}

// marks are which numbers of pints there can be.
type marks []bool

func (m marks) span() (api.Span, bool) {
	lo, hi := slices.Index(m, true), len(m)-1
	for hi >= 0 && !m[hi] {
		hi--
	}
	return span(lo, hi), lo >= 0
}

// story is a truth, with what leaked before each entry, and what this one moved.
type story struct{ holds, lost, moved []int }

func (s story) leaked() int {
	all := 0
	for _, n := range s.lost {
		all += n
	}
	return all
}

// stories are all that can have been, pint by pint, those with the first truths first.
func stories(l api.Log) []story {
	var all []story
	var now story
	var next func(i int)
	next = func(i int) {
		if i == len(l.Entries) {
			all = append(all, story{slices.Clone(now.holds), slices.Clone(now.lost), slices.Clone(now.moved)})
			return
		}
		x, had := l.Entries[i], now.holds[i]
		most := 0
		if i > 0 {
			most = min(had, l.Tank.Leak*(x.Day-l.Entries[i-1].Day))
		}
		try := func(holds, lost, moved int) {
			if holds < 0 || holds > top(l.Tank) {
				return
			}
			now.holds, now.lost, now.moved = append(now.holds, holds), append(now.lost, lost), append(now.moved, moved)
			next(i + 1)
			now.holds, now.lost, now.moved = now.holds[:i+1], now.lost[:i], now.moved[:i]
		}
		var said marks
		if x.Kind == api.EntryDip {
			said = dipped(l.Tank, x.Size)
		}
		for lost := range most + 1 {
			if x.Kind == api.EntryDip {
				if said[had-lost] {
					try(had-lost, lost, 0)
				}
				continue
			}
			for n := x.Size.Lo; n <= x.Size.Hi; n++ {
				if x.Kind == api.EntryFill {
					try(had-lost+n, lost, n)
				} else {
					try(had-lost-n, lost, n)
				}
			}
		}
	}
	for n := l.Start.Lo; n <= l.Start.Hi; n++ {
		now.holds = []int{n}
		next(0)
	}
	slices.SortStableFunc(all, func(a, b story) int { return slices.Compare(a.holds, b.holds) })
	return all
}

// numbers are all different numbers that something has in stories, in increasing order.
func numbers(all []story, of func(s story) int) []int {
	var l []int
	for _, s := range all {
		l = append(l, of(s))
	}
	slices.Sort(l)
	return slices.Compact(l)
}

// ends are the least and the greatest of these.
func ends(all []story, of func(s story) int) api.Span {
	l := numbers(all, of)
	return span(l[0], l[len(l)-1])
}

// some is a span from 0 to most, not wider than wide.
func some(r *rand.Rand, most, wide int) api.Span {
	lo := r.Intn(most + 1)
	return span(lo, min(most, lo+r.Intn(wide+1)))
}

// around is a span from 0 to most in which a number is, not wider than wide.
func around(r *rand.Rand, n, most, wide int) api.Span {
	return span(max(0, n-r.Intn(wide/2+1)), min(most, n+r.Intn(wide/2+1)))
}

// random is a valid log of a tank with so many entries at most, the spans of which are not wider than wide. Most of its entries are as something was that can have been.
func random(r *rand.Rand, t api.Tank, most, wide int) api.Log {
	holds := r.Intn(top(t) + 1)
	l := api.Log{Tank: t, Start: around(r, holds, top(t), wide)}
	day := r.Intn(3)
	for range r.Intn(most + 1) {
		x := api.Entry{Day: day, Kind: r.Intn(3) + 1}
		if len(l.Entries) > 0 {
			holds -= r.Intn(min(holds, t.Leak*(day-l.Entries[len(l.Entries)-1].Day)) + 1)
		}
		switch {
		case r.Intn(12) == 0:
			x.Size = some(r, min(top(t), 8*len(t.Pints)-8), wide)
		case x.Kind == api.EntryFill:
			n := r.Intn(top(t) - holds + 1)
			holds += n
			x.Size = around(r, n, top(t), wide)
		case x.Kind == api.EntryDraw:
			n := r.Intn(holds + 1)
			holds -= n
			x.Size = around(r, n, top(t), wide)
		default:
			x.Size = about(r, t, holds, wide)
		}
		l.Entries = append(l.Entries, x)
		day += r.Intn(3)
	}
	return l
}

// about is a dip that says some pints, and more.
func about(r *rand.Rand, t api.Tank, pints, wide int) api.Span {
	s := span(0, 8*len(t.Pints)-8)
	for s.Lo < s.Hi && straight(t, whole(s.Lo+1)).Cmp(whole(pints)) <= 0 {
		s.Lo++
	}
	for s.Hi > s.Lo && straight(t, whole(s.Hi-1)).Cmp(whole(pints)) >= 0 {
		s.Hi--
	}
	return span(max(0, s.Lo-r.Intn(wide/2+1)), min(8*len(t.Pints)-8, s.Hi+r.Intn(wide/2+1)))
}

// small is a tank that holds few pints.
func small(r *rand.Rand) api.Tank {
	t := steps(r.Intn(3), 0, r.Intn(3)+1)
	for len(t.Pints) < 5 && r.Intn(3) > 0 {
		t.Pints = append(t.Pints, top(t)+r.Intn(4)+1)
	}
	t.Foot = r.Intn(8*len(t.Pints) - 7)
	return t
}

// great is any tank.
func great(r *rand.Rand) api.Tank {
	t := steps(r.Intn(51), 0, r.Intn(30)+1)
	for len(t.Pints) < 21 && r.Intn(12) > 0 {
		t.Pints = append(t.Pints, top(t)+r.Intn(28)+1)
	}
	t.Foot = r.Intn(8*len(t.Pints) - 7)
	return t
}

// counted calls back with logs of which all that can have been is counted; with none of them first.
func counted(seed int64, count int, f func(r *rand.Rand, l api.Log, all []story)) {
	r := rand.New(rand.NewSource(seed))
	empty := api.Log{Tank: steps(1, 3, 2, 3), Start: span(1, 4)}
	f(r, empty, stories(empty))
	for range count {
		l := random(r, small(r), 5, 3)
		f(r, l, stories(l))
	}
}
