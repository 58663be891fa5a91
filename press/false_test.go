package press_test

import (
	"math/bits"
	"math/rand"
	"slices"
	"testing"

	"oilcake/api"
	"oilcake/press"
)

// TestGoneExamples checks P2.6 by the chapter's examples, and case by case.
func TestGoneExamples(t *testing.T) {
	missing := func(l ...int) []api.Missing {
		var out []api.Missing
		for i := 0; i < len(l); i += 2 {
			out = append(out, api.Missing{Pressing: l[i], Ounces: l[i+1]})
		}
		return out
	}
	whole := func(to []int, l ...api.Weighing) api.Press { // of which only seed, oil and parings are not 0
		p := lead(to, l...)
		for i := range to {
			for kind := api.WeighCake; kind <= api.WeighSteam; kind++ {
				p.Weighings = append(p.Weighings, note(len(p.Weighings)+1, i+1, kind, 0, 0))
			}
		}
		return p
	}
	cases := []struct {
		p    api.Press
		want []api.Missing
	}{
		{example(), nil},
		{with(example(), 13, 10, 20), missing(3, 20)},
		{api.Press{}, nil},
		{lead([]int{0}), nil},
		// more seed than can come out: it went elsewhere
		{whole([]int{0}, note(1, 1, 1, 50, 60), note(2, 1, 2, 10, 20)), missing(1, 30)},
		// more oil than can have gone in: it came from elsewhere
		{whole([]int{0}, note(1, 1, 1, 10, 20), note(2, 1, 2, 50, 60)), missing(1, -30)},
		// parings of 1 are their lo, 5: 4 of them came from elsewhere; just as much goes on to 2
		{whole([]int{2, 0}, note(1, 1, 1, 1, 1), note(2, 1, 2, 0, 0), note(3, 1, 6, 5, 9), note(4, 2, 1, 0, 0), note(5, 2, 2, 6, 6)), missing(1, -4, 2, -1)},
		// parings of 1 are their hi, 9: the rest went elsewhere, and is not put off to 2, which has room
		{whole([]int{2, 0}, note(1, 1, 1, 20, 20), note(2, 1, 2, 0, 0), note(3, 1, 6, 5, 9), note(4, 2, 1, 0, 0), note(5, 2, 2, 8, 8)), missing(1, 11, 2, 1)},
		// parings of 1 can be 2 to 4, of which 2 takes 3
		{whole([]int{2, 0}, note(1, 1, 1, 2, 4), note(2, 1, 2, 0, 0), note(3, 2, 1, 0, 0), note(4, 2, 2, 3, 3)), nil},
		{whole([]int{2, 0}, note(1, 1, 1, 2, 4), note(2, 1, 2, 0, 0), note(3, 2, 1, 0, 0), note(4, 2, 2, 7, 8)), missing(2, -3)},
	}
	for _, x := range cases {
		sum := 0
		for _, m := range x.want {
			sum += max(m.Ounces, -m.Ounces)
		}
		if n, l, e := press.Gone(x.p); n != sum || !slices.Equal(l, x.want) || e != api.OK {
			t.Error(x.p, n, l, e, x.want)
		}
	}
}

// noContradiction tells whether no notes of a weight contradict each other.
func noContradiction(p api.Press) bool {
	for i := range p.Pressings {
		for _, kind := range kinds() {
			if s := notes(p, i, kind); s.Lo > s.Hi {
				return false
			}
		}
	}
	return true
}

// leastMissing is the least sum of what is missing, of all weights; of a press with weights close together, also its parings.
func leastMissing(p api.Press) int {
	least := -1
	parings := make([]int, len(p.Pressings))
	var try func(i, sum int)
	try = func(i, sum int) {
		if i == len(parings) {
			if least < 0 || sum < least {
				least = sum
			}
			return
		}
		in, out := notes(p, i, api.WeighSeed), api.Span{}
		for k := range i {
			if p.Pressings[k].To == p.Pressings[i].Id {
				in.Lo, in.Hi = in.Lo+parings[k], in.Hi+parings[k]
			}
		}
		for kind := api.WeighOil; kind < api.WeighParings; kind++ {
			s := notes(p, i, kind)
			out.Lo, out.Hi = out.Lo+s.Lo, out.Hi+s.Hi
		}
		s := notes(p, i, api.WeighParings)
		for n := s.Lo; n <= s.Hi; n++ {
			parings[i] = n
			try(i+1, sum+max(0, in.Lo-out.Hi-n, out.Lo+n-in.Hi))
		}
	}
	try(0, 0)
	return least
}

// where is what is missing, pressing by pressing, by the chapter's rule; what parings can be is kept as a set.
func where(p api.Press) []api.Missing {
	var l []api.Missing
	found := make([][]int, len(p.Pressings))
	for i, x := range p.Pressings {
		diff := map[int]bool{}
		for n := notes(p, i, 1).Lo; n <= notes(p, i, 1).Hi; n++ {
			diff[n] = true
		}
		plus := func(l []int, sign int) {
			next := map[int]bool{}
			for n := range diff {
				for _, m := range l {
					next[n+sign*m] = true
				}
			}
			diff = next
		}
		for k := range i {
			if p.Pressings[k].To == x.Id {
				plus(found[k], 1)
			}
		}
		for kind := 2; kind <= 5; kind++ {
			var l []int
			for n := notes(p, i, kind).Lo; n <= notes(p, i, kind).Hi; n++ {
				l = append(l, n)
			}
			plus(l, -1)
		}
		a, b, s := 1<<40, -1<<40, notes(p, i, 6)
		for n := range diff {
			a, b = min(a, n), max(b, n)
			if n >= s.Lo && n <= s.Hi {
				found[i] = append(found[i], n)
			}
		}
		if b < s.Lo {
			found[i] = []int{s.Lo}
			l = append(l, api.Missing{Pressing: x.Id, Ounces: b - s.Lo})
		}
		if a > s.Hi {
			found[i] = []int{s.Hi}
			l = append(l, api.Missing{Pressing: x.Id, Ounces: a - s.Hi})
		}
	}
	return l
}

// TestGone checks P2.6 and P2.13: of all weights that were tried no less is missing; it is missing where the chapter says; nothing is just if there is a truth.
func TestGone(t *testing.T) {
	gone, came, several := 0, 0, 0
	r := rand.New(rand.NewSource(11))
	for range 3000 {
		p := small(r)
		for i, x := range p.Pressings { // parings are weighed closely, too
			if x.To != 0 && len(p.Weighings) < 30 {
				lo := r.Intn(6)
				p.Weighings = append(p.Weighings, note(len(p.Weighings)+1, i+1, 6, lo, lo+r.Intn(4)))
			}
		}
		n, l, e := press.Gone(p)
		if !noContradiction(p) {
			if n != 0 || len(l) > 0 || e != api.ErrBad {
				t.Fatal(p, n, l, e)
			}
			continue
		}
		is, _ := press.Holds(p)
		if n != leastMissing(p) || !slices.Equal(l, where(p)) || e != api.OK || is != (n == 0) || is != (len(l) == 0) {
			t.Fatal(p, n, l, e, leastMissing(p), where(p))
		}
		for _, x := range l {
			if x.Ounces > 0 {
				gone++
			} else {
				came++
			}
		}
		if len(l) > 1 {
			several++
		}
	}
	if gone < 100 || came < 100 || several < 50 {
		t.Error(gone, came, several)
	}
}

// TestGoneGreat checks P2.13 with great weights: what is told can be missing, and prices from -1 to 1 prove that it is the least.
func TestGoneGreat(t *testing.T) {
	some := 0
	presses(12, 800, 6, func(r *rand.Rand, p api.Press) {
		n, l, e := press.Gone(p)
		if noContradiction(p) != (e == api.OK) || e != api.OK {
			return
		}
		k := arcs(p)
		sum := 0
		for _, x := range l {
			some++
			sum += max(x.Ounces, -x.Ounces)
			a := arc{x.Pressing - 1, ground, span(x.Ounces, x.Ounces)}
			if x.Ounces < 0 {
				a = arc{ground, x.Pressing - 1, span(-x.Ounces, -x.Ounces)}
			}
			k = append(k, a)
		}
		if sum != n || !flows(k, len(p.Pressings)) {
			t.Fatal(p, n, l)
		}
		if proved := missingProof(p); proved != n {
			t.Fatal(p, n, proved)
		}
	})
	if some < 50 {
		t.Error(some)
	}
}

// missingProof is the most that prices from -1 to 1 prove to be missing: with them, what goes in less what comes out counts no less.
func missingProof(p api.Press) int {
	l, n := arcs(p), len(p.Pressings)
	prices := make([]int, n)
	most := 0
	var try func(i int)
	try = func(i int) {
		if i < n {
			for prices[i] = -1; prices[i] <= 1; prices[i]++ {
				try(i + 1)
			}
			return
		}
		sum := 0
		for _, a := range l {
			c := 0
			if a.to != ground {
				c += prices[a.to]
			}
			if a.from != ground {
				c -= prices[a.from]
			}
			sum += min(c*a.s.Lo, c*a.s.Hi)
		}
		most = max(most, sum)
	}
	try(0)
	return most
}

// fewest are the fewest weighings without which there is a truth, set by set.
func fewest(p api.Press) ([]int, api.Errno) {
	var best []int
	found := false
	for set := range 1 << len(p.Weighings) {
		if bits.OnesCount(uint(set)) > 3 {
			continue
		}
		l := []int{}
		for i, x := range p.Weighings {
			if set>>i&1 == 1 {
				l = append(l, x.Number)
			}
		}
		if found && (len(l) > len(best) || len(l) == len(best) && slices.Compare(l, best) > 0) {
			continue
		}
		if q := dropped(p, l...); flows(arcs(q), len(q.Pressings)) {
			best, found = l, true
		}
	}
	if !found {
		return nil, api.ErrMany
	}
	return best, api.OK
}

// TestFalse checks P2.7 and P2.14: the fewest weighings that must be false are told, the first of such lists.
func TestFalse(t *testing.T) {
	if l, e := press.False(example()); len(l) > 0 || e != api.OK {
		t.Error(l, e)
	}
	if l, e := press.False(with(example(), 13, 10, 20)); !slices.Equal(l, []int{1}) || e != api.OK {
		t.Error(l, e)
	}
	lengths := map[int]int{}
	r := rand.New(rand.NewSource(13))
	for range 500 {
		n := r.Intn(3) + 1
		p := lead(shape(r, n))
		number := 0
		for range r.Intn(12) {
			number += r.Intn(3) + 1
			lo := r.Intn(20)
			p.Weighings = append(p.Weighings, note(number, r.Intn(n)+1, r.Intn(6)+1, lo, lo+r.Intn(6)))
		}
		want, e := fewest(p)
		if l, f := press.False(p); !slices.Equal(l, want) || e != f {
			t.Fatal(p, l, f, want, e)
		}
		lengths[len(want)]++
		if e == api.ErrMany {
			lengths[4]++
		}
	}
	for n := range 5 {
		if lengths[n] < 5 {
			t.Error(lengths)
		}
	}
}

// TestFalseMany checks P2.7's ErrMany: three weighings are told, four are too many.
func TestFalseMany(t *testing.T) {
	p := lead(make([]int, 10))
	for i := range 30 {
		kind := []int{api.WeighSeed, api.WeighOil, api.WeighCake}[i%3]
		p.Weighings = append(p.Weighings, note(i+1, i/3+1, kind, 0, 5))
	}
	for n := range 5 {
		if n > 0 {
			p.Weighings[30-n].Kind = api.WeighParings
			p.Weighings[30-n].Ounces = span(1, 2)
		}
		want, e := []int{28, 29, 30}[3-min(n, 3):], api.OK
		if n == 4 {
			want, e = nil, api.ErrMany
		}
		if l, f := press.False(p); !slices.Equal(l, want) || e != f {
			t.Error(n, l, f, want)
		}
	}
}

// TestRests checks P2.7 and P2.16: all weighings without which a span is another one are told, and no other ones.
func TestRests(t *testing.T) {
	if l, e := press.Rests(example(), 3, 2); !slices.Equal(l, []int{12}) || e != api.OK {
		t.Error(l, e)
	}
	if l, e := press.Rests(example(), 1, 6); !slices.Equal(l, []int{1, 2, 3, 4, 5, 6, 7, 8, 9, 10, 12, 13, 14, 15}) || e != api.OK {
		t.Error(l, e)
	}
	some := 0
	presses(14, 100, 4, func(r *rand.Rand, p api.Press) {
		for i, x := range p.Pressings {
			kind := r.Intn(6) + 1
			l, e := press.Rests(p, x.Id, kind)
			s, f := press.Span(p, x.Id, kind)
			if e != f {
				t.Fatal(p, e, f)
			}
			if e != api.OK {
				return
			}
			for _, y := range p.Weighings {
				q := dropped(p, y.Number)
				if exact(arcs(q), len(q.Pressings), 6*i+kind-1, s) == slices.Contains(l, y.Number) {
					t.Fatal(p, x.Id, kind, y.Number, l)
				}
			}
			if !slices.IsSorted(l) {
				t.Fatal(l)
			}
			some += len(l)
		}
	})
	if some < 100 {
		t.Error(some)
	}
	twice := lead([]int{0}, note(1, 1, 2, 3, 4), note(2, 1, 2, 3, 4), note(3, 1, 3, 1, 2))
	if l, e := press.Rests(twice, 1, 2); len(l) > 0 || e != api.OK {
		t.Error(l, e) // each of both is enough
	}
}

// TestWeigh checks P2.8: a weighing more is in its place by Number, and all else is as it was.
func TestWeigh(t *testing.T) {
	p := example()
	for i, x := range p.Weighings {
		q, e := press.Weigh(dropped(p, x.Number), x)
		if !same(q, p) || e != api.OK {
			t.Error(i, q, e)
		}
	}
	x := note(9999, 3, 6, 0, 1000000)
	q, e := press.Weigh(p, x)
	if !slices.Equal(q.Weighings, append(slices.Clone(p.Weighings), x)) || !slices.Equal(q.Pressings, p.Pressings) || e != api.OK {
		t.Error(q, e)
	}
	if q, e := press.Weigh(p, note(16, 3, 6, 1, 5)); len(q.Weighings) != 16 || e != api.OK {
		t.Error(q, e) // a press without a truth is valid
	}
	p.Weighings = many(29)
	for i := range p.Weighings {
		p.Weighings[i].Pressing = i%3 + 1
	}
	q, e = press.Weigh(p, note(5, 1, 1, 0, 0))
	if len(q.Weighings) != 30 || q.Weighings[0].Number != 5 || e != api.OK {
		t.Error(q, e)
	}
	if q, e := press.Weigh(q, note(6, 1, 1, 0, 0)); !same(q, api.Press{}) || e != api.ErrFull {
		t.Error(q, e)
	}
}

// TestStrike checks P2.8: the press is without the weighings of the list, whichever they are.
func TestStrike(t *testing.T) {
	p := example()
	for set := range 1 << 15 {
		var l []int
		for i := range 15 {
			if set>>i&1 == 1 {
				l = append(l, i+1)
			}
		}
		if q, e := press.Strike(p, l); !same(q, dropped(p, l...)) || e != api.OK {
			t.Fatal(l, q, e)
		}
	}
	if q, e := press.Strike(p, nil); !same(q, p) || e != api.OK {
		t.Error(q, e)
	}
	if q, e := press.Strike(api.Press{}, nil); !same(q, api.Press{}) || e != api.OK {
		t.Error(q, e)
	}
}

// TestLead checks P2.8: parings go to any later pressing, or nowhere, and all else is as it was.
func TestLead(t *testing.T) {
	p := lead([]int{3, 3, 4, 0}, note(1, 1, 6, 5, 9))
	for i := range p.Pressings {
		for to := range 6 {
			q, e := press.Lead(p, i+1, to)
			want, f := copied(p), api.OK
			want.Pressings[i].To = to
			if to != 0 && (to <= i+1 || to > 4) {
				want, f = api.Press{}, api.ErrLead
			}
			if !same(q, want) || e != f {
				t.Error(i, to, q, e)
			}
		}
	}
	q, _ := press.Lead(p, 1, 0)
	if is, e := press.Holds(q); is || e != api.OK {
		t.Error(is, e) // the parings that were weighed cannot go nowhere
	}
}
