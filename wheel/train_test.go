package wheel_test

import (
	"math/rand"
	"slices"
	"testing"

	"oilcake/api"
	"oilcake/wheel"
)

// TestRatio checks P10.1: the ratio of each train, in lowest terms.
func TestRatio(t *testing.T) {
	great := wheels(120, 6, 120, 6, 120, 7, 119, 113)
	for _, x := range []struct {
		w    api.Wheels
		l    []api.Pair
		want api.Part
	}{
		{exampleWheels(), train(1, 2), part(2, 3)},
		{exampleWheels(), train(2, 1), part(3, 2)},
		{exampleWheels(), train(1, 2, 4, 3), part(2, 5)},
		{exampleWheels(), train(4, 3, 1, 2), part(2, 5)},
		{exampleWheels(), train(3, 1), part(2, 1)},
		{wheels(20, 20), train(2, 1), part(1, 1)},
		{great, train(1, 2, 3, 4, 5, 6), part(48000, 7)},
		{great, train(2, 1, 4, 3, 6, 5), part(7, 48000)},
		{great, train(2, 1, 4, 3, 7, 8), part(119, 45200)},
		{wheels(6, 7, 11, 13, 17, 19), train(1, 2, 3, 4, 5, 6), part(1122, 1729)},
		{wheels(120, 119, 118, 117, 116, 113), train(2, 1, 4, 3, 6, 5), part(119*39*113, 40*118*116)},
	} {
		if p, e := wheel.Ratio(x.w, x.l); p != x.want || e != api.OK {
			t.Error(x.w, x.l, p, e)
		}
	}
	r := rand.New(rand.NewSource(1))
	for n := range 2000 {
		w := someWheels(r, 2+r.Intn(7), n%2 == 0)
		l := someTrain(r, w, 1+r.Intn(min(3, len(w.Teeth)/2)))
		if p, e := wheel.Ratio(w, l); p != parted(ratio(w, l)) || e != api.OK {
			t.Fatal(w, l, p, e)
		}
	}
}

// TestBackwards checks P10.10: a train that is driven backwards has the inverse ratio, and the ratios of two trains, one behind the other, are multiplied.
func TestBackwards(t *testing.T) {
	r := rand.New(rand.NewSource(2))
	for n := range 2000 {
		w := someWheels(r, 2+r.Intn(7), n%2 == 0)
		l := someTrain(r, w, 1+r.Intn(min(3, len(w.Teeth)/2)))
		p, _ := wheel.Ratio(w, l)
		var back []api.Pair
		for _, x := range l {
			back = slices.Insert(back, 0, api.Pair{Driver: x.Driven, Driven: x.Driver})
		}
		if q, e := wheel.Ratio(w, back); q != part(p.Den, p.Num) || e != api.OK {
			t.Fatal(w, back, q, e)
		}
		for i := 1; i < len(l); i++ {
			a, e := wheel.Ratio(w, l[:i])
			b, f := wheel.Ratio(w, l[i:])
			if e != api.OK || f != api.OK || parted(rat(part(a.Num*b.Num, a.Den*b.Den))) != p {
				t.Fatal(w, l, i, p, a, b, e, f)
			}
		}
	}
}

// TestNearest checks P10.2: the nearest trains, of several one with the fewest pairs, of these the first one, and how far they are.
func TestNearest(t *testing.T) {
	for _, x := range []struct {
		w     api.Wheels
		wish  api.Part
		pairs int
		l     []api.Pair
		off   api.Part
	}{
		{exampleWheels(), part(7, 10), 2, train(1, 2), part(1, 30)},
		{exampleWheels(), part(14, 20), 2, train(1, 2), part(1, 30)},
		{exampleWheels(), part(9, 10), 2, train(2, 1, 4, 3), part(0, 1)},
		{exampleWheels(), part(9, 10), 3, train(2, 1, 4, 3), part(0, 1)},
		{exampleWheels(), part(9, 10), 1, train(1, 4), part(1, 15)},
		{exampleWheels(), part(1000, 1), 3, train(2, 1, 3, 4), part(1995, 2)},
		{exampleWheels(), part(1, 1000), 3, train(1, 2, 4, 3), part(399, 1000)},
		{wheels(20, 20), part(1, 1), 1, train(1, 2), part(0, 1)},
		{wheels(20, 20), part(999, 1000), 3, train(1, 2), part(1, 1000)},
		{wheels(20, 20), part(1000, 999), 3, train(1, 2), part(1, 999)},
		{wheels(20, 40), part(5, 4), 1, train(1, 2), part(3, 4)},  // as far as 2 to 1
		{wheels(40, 20), part(5, 4), 1, train(1, 2), part(3, 4)},  // so is this
		{wheels(40, 20), part(10, 8), 1, train(1, 2), part(3, 4)}, // in lowest terms or not
		{wheels(20, 40), part(6, 4), 1, train(2, 1), part(1, 2)},
		{wheels(20, 20, 20), part(1, 1), 3, train(1, 2), part(0, 1)},
		{wheels(30, 20, 20, 20), part(1, 1), 2, train(2, 3), part(0, 1)},
		{wheels(20, 40, 30, 90), part(1, 6), 3, train(1, 2, 3, 4), part(0, 1)}, // 3 to 4, 1 to 2 is behind it
		{wheels(90, 40, 30, 20), part(1, 6), 3, train(3, 1, 4, 2), part(0, 1)},
		{wheels(120, 6, 120, 6, 120, 6), part(1000, 1), 3, train(1, 2, 3, 4), part(600, 1)},
		{wheels(120, 6, 120, 6, 120, 6), part(1, 1000), 3, train(2, 1, 4, 3, 6, 5), part(7, 8000)},
		{wheels(120, 119, 118, 117, 116, 113), part(1000, 999), 1, train(1, 2), part(880, 118881)},
	} {
		l, off, e := wheel.Nearest(x.w, x.wish, x.pairs)
		if !slices.Equal(l, x.l) || off != x.off || e != api.OK {
			t.Error(x.w, x.wish, x.pairs, l, off, e)
		}
	}
}

// TestNearestOfAll checks P10.2 and P10.9: of all trains in stock none comes nearer, none that is as near has fewer pairs, or is before it.
func TestNearestOfAll(t *testing.T) {
	r := rand.New(rand.NewSource(3))
	for n := range 900 {
		w := someWheels(r, 2+r.Intn(4), n%2 == 0)
		wish := part(1+r.Intn(1000), 1+r.Intn(1000))
		if n%3 == 0 {
			wish = part(1+r.Intn(6), 1+r.Intn(6))
		}
		pairs := 1 + r.Intn(3)
		want, least := chosen(w, wish, pairs)
		l, off, e := wheel.Nearest(w, wish, pairs)
		if !slices.Equal(l, want) || off != parted(least) || e != api.OK {
			t.Fatal(w, wish, pairs, l, off, e, want, least)
		}
		l, off, e = wheel.Nearest(w, wish, 3)
		hit, f := wheel.Exact(w, wish)
		if e != api.OK || (f == api.OK) != (off == part(0, 1)) || f == api.OK && !slices.Equal(hit, l) || f != api.OK && f != api.ErrNone {
			t.Fatal(w, wish, l, off, e, hit, f)
		}
	}
}

// TestAllWheels checks P10.2 and P10.9 with as many wheels as there may be, and with the longest trains.
func TestAllWheels(t *testing.T) {
	r := rand.New(rand.NewSource(4))
	for _, w := range []api.Wheels{
		wheels(6, 7, 11, 120, 119, 113, 60, 59), wheels(120, 119, 118, 117, 116, 115, 114, 113), someWheels(r, 7, false), someWheels(r, 8, true), someWheels(r, 6, true),
	} {
		for _, wish := range []api.Part{part(1000, 999), part(355, 113), part(1, 1000)} {
			want, least := chosen(w, wish, 3)
			l, off, e := wheel.Nearest(w, wish, 3)
			if !slices.Equal(l, want) || off != parted(least) || e != api.OK {
				t.Error(w, wish, l, off, e, want, least)
			}
		}
	}
}

// TestExact checks P10.2 and P10.9: the train with the fewest pairs that hits a wish, of several the first one.
func TestExact(t *testing.T) {
	for _, x := range []struct {
		w    api.Wheels
		wish api.Part
		l    []api.Pair
		e    api.Errno
	}{
		{exampleWheels(), part(4, 10), train(1, 2, 4, 3), api.OK},
		{exampleWheels(), part(400, 1000), train(1, 2, 4, 3), api.OK},
		{exampleWheels(), part(7, 10), nil, api.ErrNone},
		{exampleWheels(), part(2, 3), train(1, 2), api.OK},
		{exampleWheels(), part(3, 4), train(2, 3), api.OK},
		{exampleWheels(), part(1, 1), nil, api.ErrNone},
		{wheels(20, 20), part(1000, 1000), train(1, 2), api.OK},
		{wheels(20, 20), part(999, 1000), nil, api.ErrNone},
		{wheels(20, 40, 30, 60), part(1, 2), train(1, 2), api.OK},
		{wheels(60, 40, 30, 20), part(1, 2), train(3, 1), api.OK},
		{wheels(60, 40, 30, 20), part(1, 4), train(3, 1, 4, 2), api.OK},
		{wheels(10, 20, 10, 30, 10, 50), part(1, 30), train(1, 2, 3, 4, 5, 6), api.OK},
		{wheels(10, 20, 10, 30, 10, 50), part(30, 1), train(2, 1, 4, 3, 6, 5), api.OK},
		{wheels(10, 20, 10, 30, 10), part(1, 30), nil, api.ErrNone},
		{api.Wheels{}, part(1, 1), nil, api.ErrNone},
		{wheels(20), part(1, 1), nil, api.ErrNone},
	} {
		if l, e := wheel.Exact(x.w, x.wish); !slices.Equal(l, x.l) || e != x.e {
			t.Error(x.w, x.wish, l, e)
		}
	}
	r := rand.New(rand.NewSource(5))
	hits := 0
	for n := range 400 {
		w := someWheels(r, 4+r.Intn(3), n%4 > 0)
		l := someTrain(r, w, 1+r.Intn(len(w.Teeth)/2))
		wish := parted(ratio(w, l))
		if wish.Num > 1000 || wish.Den > 1000 {
			continue
		}
		hits++
		want, least := chosen(w, wish, len(l))
		if hit, e := wheel.Exact(w, wish); !slices.Equal(hit, want) || least.Sign() != 0 || e != api.OK {
			t.Fatal(w, wish, hit, e, want, least)
		}
	}
	if hits < 200 {
		t.Error(hits)
	}
}

// TestMany checks P10.2: how many different ratios there are.
func TestMany(t *testing.T) {
	for _, x := range []struct {
		w           api.Wheels
		pairs, want int
	}{
		{exampleWheels(), 1, 12},
		{exampleWheels(), 2, 18},
		{exampleWheels(), 3, 18},
		{wheels(20, 20, 20, 20), 2, 1},
		{wheels(20, 40), 3, 2},
		{wheels(20, 40, 20), 3, 3},
	} {
		if n, e := wheel.Many(x.w, x.pairs); n != x.want || e != api.OK {
			t.Error(x.w, x.pairs, n, e)
		}
	}
	r := rand.New(rand.NewSource(6))
	for n := range 300 {
		w := someWheels(r, 1+r.Intn(6), n%2 == 0)
		seen := map[string]bool{}
		for pairs := 1; pairs <= min(3, len(w.Teeth)/2+1); pairs++ {
			for _, l := range trains(w, pairs) {
				seen[ratio(w, l).String()] = true
			}
			if many, e := wheel.Many(w, pairs); many != len(seen) || e != api.OK {
				t.Fatal(w, pairs, many, e, len(seen))
			}
		}
	}
	w := wheels(6, 7, 11, 120, 119, 113, 60, 59)
	seen := map[string]bool{}
	for pairs := 1; pairs <= 3; pairs++ {
		for _, l := range trains(w, pairs) {
			seen[ratio(w, l).String()] = true
		}
	}
	if many, e := wheel.Many(w, 3); many != len(seen) || e != api.OK {
		t.Error(many, e, len(seen))
	}
}

// TestHunts checks P10.3: a train hunts if of no pair both wheels have teeth by a common number, whatever wheels of different pairs have.
func TestHunts(t *testing.T) {
	for _, x := range []struct {
		w    api.Wheels
		l    []api.Pair
		want bool
	}{
		{exampleWheels(), train(1, 2), false},
		{wheels(20, 21), train(1, 2), true},
		{wheels(20, 21), train(2, 1), true},
		{wheels(20, 21, 20, 21), train(1, 2, 3, 4), true},
		{wheels(20, 21, 20, 21), train(1, 4, 2, 3), true},
		{wheels(20, 21, 20, 21), train(1, 3), false},
		{wheels(20, 21, 20, 21), train(1, 2, 3, 4)[1:], true},
		{wheels(20, 21, 20, 22), train(1, 2, 3, 4), false},
		{wheels(20, 22, 20, 21), train(1, 2, 3, 4), false},
		{wheels(7, 7), train(1, 2), false},
		{wheels(7, 120), train(1, 2), true},
		{wheels(7, 119), train(1, 2), false},
	} {
		if is, e := wheel.Hunts(x.w, x.l); is != x.want || e != api.OK {
			t.Error(x.w, x.l, is, e)
		}
	}
}

// TestHuntsOfTeeth checks P10.3, with P10.4: a pair hunts if and only if each tooth of the one strikes all teeth of the other one.
func TestHuntsOfTeeth(t *testing.T) {
	r := rand.New(rand.NewSource(7))
	for n := range 1000 {
		w := someWheels(r, 6, n%3 == 0)
		l := someTrain(r, w, 1+r.Intn(3))
		want := true
		for _, p := range l {
			struck, _ := wheel.Strikes(w.Teeth[p.Driver-1], w.Teeth[p.Driven-1], 0)
			want = want && len(struck) == w.Teeth[p.Driven-1]
		}
		if is, e := wheel.Hunts(w, l); is != want || e != api.OK {
			t.Fatal(w, l, is, e)
		}
	}
}

// stand reports whether all wheels of a train stand as at first after so many turns of the first one.
func stand(w api.Wheels, l []api.Pair, turns int) bool {
	num, den := turns, 1
	for _, p := range l {
		num, den = num*w.Teeth[p.Driver-1], den*w.Teeth[p.Driven-1]
		if num%den != 0 {
			return false
		}
	}
	return true
}

// TestAgain checks P10.3 and P10.12: after so many turns as are told all wheels stand as at first, and not before, also those between the first and the last one.
func TestAgain(t *testing.T) {
	for _, x := range []struct {
		w    api.Wheels
		l    []api.Pair
		want int
	}{
		{exampleWheels(), train(1, 2), 3},
		{exampleWheels(), train(2, 1), 2},
		{exampleWheels(), train(3, 1), 1},
		{exampleWheels(), train(1, 2, 4, 3), 15},
		{wheels(20, 20), train(1, 2), 1},
		{wheels(20, 30, 30, 20), train(1, 2, 3, 4), 3}, // the last wheel stands after each turn
		{wheels(6, 120, 7, 119, 11, 113), train(1, 2, 3, 4, 5, 6), 20 * 17 * 113},
		{wheels(7, 120, 8, 119, 9, 113), train(1, 2, 3, 4, 5, 6), 120 * 17 * 113},
		{wheels(7, 120, 11, 119, 13, 113), train(1, 2, 3, 4, 5, 6), 120 * 17 * 113},
		{wheels(11, 120, 13, 119, 17, 113), train(1, 2, 3, 4, 5, 6), 120 * 119 * 113}, // the wheel in between needs the 17 too, which the last one does not
		{wheels(11, 120, 13, 119, 23, 113), train(1, 2, 3, 4, 5, 6), 120 * 119 * 113},
	} {
		if n, e := wheel.Again(x.w, x.l); n != x.want || e != api.OK {
			t.Error(x.w, x.l, n, e)
		}
	}
	r := rand.New(rand.NewSource(8))
	for n := range 3000 {
		w := someWheels(r, 2+r.Intn(5), n%2 == 0)
		l := someTrain(r, w, 1+r.Intn(min(3, len(w.Teeth)/2)))
		turns, e := wheel.Again(w, l)
		if e != api.OK || !stand(w, l, turns) {
			t.Fatal(w, l, turns, e)
		}
		for before := 1; before < turns; before++ {
			if stand(w, l, before) {
				t.Fatal(w, l, turns, before)
			}
		}
	}
}
