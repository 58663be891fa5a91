package press_test

import (
	"math/big"
	"math/rand"
	"slices"
	"testing"

	"oilcake/api"
	"oilcake/press"
)

// TestExamples checks the chapter's examples of layer 2.
func TestExamples(t *testing.T) {
	p := example()
	spans := []struct {
		pressing, kind int
		want           api.Span
	}{{1, 6, span(60, 110)}, {2, 6, span(40, 90)}, {3, 6, span(0, 0)}, {1, 1, span(1000, 1000)}, {3, 2, span(30, 40)}}
	for _, x := range spans {
		if s, e := press.Span(p, x.pressing, x.kind); s != x.want || e != api.OK {
			t.Error(x, s, e)
		}
	}
	if s, e := press.In(p, 3); s != span(105, 150) || e != api.OK {
		t.Error(s, e)
	}
	for kind, want := range map[int]api.Span{2: span(490, 530), 3: span(870, 920), 5: span(60, 110), 1: span(1600, 1600)} {
		if s, e := press.All(p, kind); s != want || e != api.OK {
			t.Error(kind, s, e)
		}
	}
	want := []api.Weighed{
		{Pressing: 1, Ounces: [7]int{0, 1000, 290, 500, 40, 60, 110}},
		{Pressing: 2, Ounces: [7]int{0, 600, 180, 310, 30, 40, 40}},
		{Pressing: 3, Ounces: [7]int{0, 0, 40, 90, 10, 10, 0}},
	}
	if l, e := press.First(p); !slices.Equal(l, want) || e != api.OK {
		t.Error(l, e)
	}
	if is, e := press.Valid(p, want); !is || e != api.OK {
		t.Error(is, e)
	}
	if l, m, e := press.Yield(p, 1); l != part(29, 100) || m != part(31, 100) || e != api.OK {
		t.Error(l, m, e)
	}
	if l, m, e := press.Yield(p, 3); l != part(3, 14) || m != part(8, 23) || e != api.OK {
		t.Error(l, m, e)
	}
	for _, x := range []struct {
		pressing int
		least    api.Part
		want     uint8
	}{{1, part(3, 10), api.KnownOpen}, {1, part(8, 25), api.KnownYes}, {3, part(1, 4), api.KnownOpen}, {1, part(29, 100), api.KnownNo}, {1, part(31, 100), api.KnownOpen}} {
		if k, e := press.Less(p, x.pressing, x.least); k != x.want || e != api.OK {
			t.Error(x, k, e)
		}
	}
	q := with(p, 12, 30, 400)
	if s, e := press.All(q, 2); s != span(490, 615) || e != api.OK {
		t.Error(s, e)
	}
	if l, e := press.Proof(q, 2); !slices.Equal(l, []int{1, 2, 3}) || e != api.OK {
		t.Error(l, e)
	}
	if is, e := press.Holds(with(p, 13, 10, 20)); is || e != api.OK {
		t.Error(is, e)
	}
}

// TestCounted checks P2.1 to P2.3, P2.4's All, P2.9 to P2.11: each result is as it is if all truths are counted.
func TestCounted(t *testing.T) {
	some, none := 0, 0
	counted(1, 1500, func(r *rand.Rand, p api.Press, l [][]api.Weighed) {
		if is, e := press.Holds(p); is != (len(l) > 0) || e != api.OK {
			t.Fatal(p, is, e)
		}
		if len(l) == 0 {
			none++
			bad(t, p)
			return
		}
		some++
		for i, x := range p.Pressings {
			for _, kind := range kinds() {
				want := ends(l, func(l []api.Weighed) int { return l[i].Ounces[kind] })
				if s, e := press.Span(p, x.Id, kind); s != want || e != api.OK {
					t.Fatal(p, x.Id, kind, s, want, e)
				}
			}
			want := ends(l, func(l []api.Weighed) int { return goesIn(p, l, i) })
			if s, e := press.In(p, x.Id); s != want || e != api.OK {
				t.Fatal(p, x.Id, s, want, e)
			}
		}
		for _, kind := range kinds()[:5] {
			want := ends(l, func(l []api.Weighed) int { return all(l, kind) })
			if s, e := press.All(p, kind); s != want || e != api.OK {
				t.Fatal(p, kind, s, want, e)
			}
		}
		if f, e := press.First(p); !slices.Equal(f, l[0]) || e != api.OK {
			t.Fatal(p, f, l[0], e)
		}
	})
	if some < 200 || none < 200 {
		t.Error(some, none)
	}
}

// bad checks that ErrBad is returned, with zero values, wherever there has to be a truth.
func bad(t *testing.T, p api.Press) {
	t.Helper()
	for _, x := range p.Pressings {
		for _, kind := range kinds() {
			if s, e := press.Span(p, x.Id, kind); s != span(0, 0) || e != api.ErrBad {
				t.Fatal(p, s, e)
			}
		}
		if s, e := press.In(p, x.Id); s != span(0, 0) || e != api.ErrBad {
			t.Fatal(p, s, e)
		}
	}
	for _, kind := range kinds()[:5] {
		if s, e := press.All(p, kind); s != span(0, 0) || e != api.ErrBad {
			t.Fatal(p, s, e)
		}
		if l, e := press.Proof(p, kind); len(l) > 0 || e != api.ErrBad {
			t.Fatal(p, l, e)
		}
	}
	if l, e := press.First(p); len(l) > 0 || e != api.ErrBad {
		t.Fatal(p, l, e)
	}
}

// TestYield checks P2.5 and P2.17: yields, and whether they are less, are as they are if all truths are counted.
func TestYield(t *testing.T) {
	parts := []api.Part{part(0, 1), part(0, 1000), part(1, 1000), part(1, 5), part(2, 6), part(1, 2), part(3, 5), part(2, 3), part(999, 1000), part(1, 1), part(1000, 1000)}
	nothing, open := 0, 0
	counted(2, 1500, func(r *rand.Rand, p api.Press, l [][]api.Weighed) {
		if len(l) == 0 {
			return
		}
		for i, x := range p.Pressings {
			var least, most *big.Rat
			for _, w := range l {
				if in := goesIn(p, w, i); in > 0 {
					y := big.NewRat(int64(w[i].Ounces[2]), int64(in))
					if least == nil || y.Cmp(least) < 0 {
						least = y
					}
					if most == nil || y.Cmp(most) > 0 {
						most = y
					}
				}
			}
			a, b, e := press.Yield(p, x.Id)
			if least == nil {
				nothing++
				if a != part(0, 0) || b != part(0, 0) || e != api.ErrNone {
					t.Fatal(p, x.Id, a, b, e)
				}
			} else if e != api.OK || rat(a).Cmp(least) != 0 || rat(b).Cmp(most) != 0 || int64(a.Den) != least.Denom().Int64() || int64(b.Den) != most.Denom().Int64() {
				t.Fatal(p, x.Id, a, b, e, least, most)
			}
			for _, q := range parts {
				want := lessIn(p, l, i, q)
				if want == api.KnownOpen {
					open++
				}
				if k, e := press.Less(p, x.Id, q); k != want || e != api.OK {
					t.Fatal(p, x.Id, q, k, want, e)
				}
			}
		}
	})
	if nothing < 5 || open < 100 {
		t.Error(nothing, open)
	}
}

// lessIn is what is known of whether oil is less than a part of what goes in.
func lessIn(p api.Press, all [][]api.Weighed, i int, q api.Part) uint8 {
	n := 0
	for _, l := range all {
		if l[i].Ounces[2]*q.Den < goesIn(p, l, i)*q.Num {
			n++
		}
	}
	switch n {
	case 0:
		return api.KnownNo
	case len(all):
		return api.KnownYes
	}
	return api.KnownOpen
}

// TestYieldEnds checks P2.5 at its ends: nothing has to go in, only oil comes out, numbers are the greatest.
func TestYieldEnds(t *testing.T) {
	cases := []struct {
		p           api.Press
		least, most api.Part
		e           api.Errno
	}{
		{lead([]int{0}), part(0, 1), part(1, 1), api.OK},
		{lead([]int{0}, note(1, 1, 1, 0, 0)), part(0, 0), part(0, 0), api.ErrNone},
		{lead([]int{0}, note(1, 1, 1, 0, 9), note(2, 1, 2, 0, 0)), part(0, 1), part(0, 1), api.OK},
		{lead([]int{0}, note(1, 1, 1, 0, 9), note(2, 1, 3, 0, 0), note(3, 1, 4, 0, 0), note(4, 1, 5, 0, 0)), part(1, 1), part(1, 1), api.OK},
		{lead([]int{0}, note(1, 1, 1, 0, 9), note(2, 1, 3, 0, 1), note(3, 1, 4, 0, 0), note(4, 1, 5, 0, 0)), part(0, 1), part(1, 1), api.OK},
		{lead([]int{0}, note(1, 1, 1, 1000000, 1000000), note(2, 1, 2, 1, 999999)), part(1, 1000000), part(999999, 1000000), api.OK},
		{lead([]int{2, 0}, note(1, 2, 1, 0, 0), note(2, 1, 6, 0, 0)), part(0, 0), part(0, 0), api.ErrNone},
		{lead([]int{0}, note(1, 1, 1, 0, 0), note(2, 1, 2, 1, 1)), part(0, 0), part(0, 0), api.ErrBad},
	}
	for _, x := range cases {
		id := len(x.p.Pressings)
		if l, m, e := press.Yield(x.p, id); l != x.least || m != x.most || e != x.e {
			t.Error(x, l, m, e)
		}
	}
	none := lead([]int{0}, note(1, 1, 1, 0, 0))
	for _, q := range []api.Part{part(0, 1), part(1, 1), part(1, 1000)} {
		if k, e := press.Less(none, 1, q); k != api.KnownNo || e != api.OK {
			t.Error(q, k, e)
		}
	}
	if k, e := press.Less(lead([]int{0}, note(1, 1, 2, 0, 0)), 1, part(1, 1000)); k != api.KnownOpen || e != api.OK {
		t.Error(k, e) // where nothing goes in, it is not less
	}
	if k, e := press.Less(lead([]int{0}, note(1, 1, 2, 0, 0), note(2, 1, 1, 1, 1000000)), 1, part(1, 1000)); k != api.KnownYes || e != api.OK {
		t.Error(k, e)
	}
}

// TestGreat checks P2.2, P2.4's All, and P2.10 with great weights: both ends come about, nothing beyond them does.
func TestGreat(t *testing.T) {
	some, none := 0, 0
	presses(3, 250, 6, func(r *rand.Rand, p api.Press) {
		l, n := arcs(p), len(p.Pressings)
		holds := flows(l, n)
		if is, e := press.Holds(p); is != holds || e != api.OK {
			t.Fatal(p, is, e)
		}
		if !holds {
			none++
			bad(t, p)
			return
		}
		some++
		for i, x := range p.Pressings {
			for _, kind := range kinds() {
				if s, e := press.Span(p, x.Id, kind); !exact(l, n, 6*i+kind-1, s) || e != api.OK {
					t.Fatal(p, x.Id, kind, s, e)
				}
			}
			k, n := throughOne(p, i)
			if s, e := press.In(p, x.Id); !exact(k, n, len(k)-1, s) || e != api.OK {
				t.Fatal(p, x.Id, s, e)
			}
		}
		for _, kind := range kinds()[:5] {
			k, n := together(p, kind)
			if s, e := press.All(p, kind); !exact(k, n, len(k)-1, s) || e != api.OK {
				t.Fatal(p, kind, s, e)
			}
		}
	})
	if some < 50 || none < 20 {
		t.Error(some, none)
	}
}

// TestLong checks P2.2 and P2.4 with as many pressings as there may be, whose parings go round in a chain, or into the last one.
func TestLong(t *testing.T) {
	r := rand.New(rand.NewSource(4))
	for range 4 {
		chain, fan := []int{2, 3, 4, 5, 6, 7, 8, 9, 10, 0}, []int{10, 10, 10, 10, 10, 10, 10, 10, 10, 0}
		for _, to := range [][]int{chain, fan} {
			p := lead(to)
			for i := range 10 {
				lo := r.Intn(1000)
				p.Weighings = append(p.Weighings, note(len(p.Weighings)+1, i+1, 1, lo, lo+r.Intn(1000)), note(len(p.Weighings)+2, i+1, r.Intn(4)+2, 0, r.Intn(1000)))
			}
			l := arcs(p)
			for _, i := range []int{0, 4, 8, 9} {
				kind := r.Intn(6) + 1
				if s, e := press.Span(p, i+1, kind); !exact(l, 10, 6*i+kind-1, s) || e != api.OK {
					t.Error(p, i, kind, s, e)
				}
			}
			for _, kind := range kinds()[:5] {
				k, n := together(p, kind)
				if s, e := press.All(p, kind); !exact(k, n, len(k)-1, s) || e != api.OK {
					t.Error(p, kind, s, e)
				}
			}
		}
	}
	if s, e := press.All(lead([]int{0, 0, 0, 0, 0, 0, 0, 0, 0, 0}), 1); s != span(0, 10000000) || e != api.OK {
		t.Error(s, e)
	}
	if s, e := press.In(lead([]int{10, 10, 10, 10, 10, 10, 10, 10, 10, 0}), 10); s != span(0, 4000000) || e != api.OK {
		t.Error(s, e) // oil, cake, dirt and steam are 1,000,000 each at most
	}
}

// TestFirst checks P2.3 and P2.11 with great weights: the first truth is one, and no weight can be less behind those before it.
func TestFirst(t *testing.T) {
	some := 0
	presses(5, 60, 5, func(r *rand.Rand, p api.Press) {
		f, e := press.First(p)
		if e != api.OK {
			return
		}
		some++
		if !isTruth(p, f) {
			t.Fatal(p, f)
		}
		l := arcs(p)
		for i := range l {
			n := f[i/6].Ounces[i%6+1]
			l[i].s = span(l[i].s.Lo, n-1)
			if flows(l, len(p.Pressings)) {
				t.Fatal(p, f, i)
			}
			l[i].s = span(n, n)
		}
	})
	if some < 20 {
		t.Error(some)
	}
}

// TestValid checks P2.3 and P2.9: a list is a truth if it is one of those that were counted, and no other one is.
func TestValid(t *testing.T) {
	counted(6, 400, func(r *rand.Rand, p api.Press, all [][]api.Weighed) {
		if len(all) == 0 {
			all = append(all, make([]api.Weighed, len(p.Pressings)))
			for i, x := range p.Pressings {
				all[0][i].Pressing = x.Id
			}
		}
		for range 20 {
			l := slices.Clone(all[r.Intn(len(all))])
			check := func(l []api.Weighed) {
				t.Helper()
				if is, e := press.Valid(p, l); is != isTruth(p, l) || e != api.OK {
					t.Fatal(p, l, is, e)
				}
			}
			check(l)
			if len(l) == 0 {
				continue
			}
			check(l[1:])
			check(append(slices.Clone(l), l[len(l)-1]))
			x := &l[r.Intn(len(l))]
			switch r.Intn(4) {
			case 0:
				x.Pressing += r.Intn(3) - 1
			case 1:
				x.Ounces[r.Intn(7)] += r.Intn(3) - 1
			default: // what goes in and comes out stays alike
				d := r.Intn(3) - 1
				x.Ounces[r.Intn(4)+2] += d
				x.Ounces[r.Intn(4)+2] -= d
			}
			check(l)
		}
	})
}

// TestValidFar checks P2.3 and R5: numbers that nothing allows are in no truth, also if their sums overflow; nor is any in notes that contradict each other.
func TestValidFar(t *testing.T) {
	p := lead([]int{0})
	for _, n := range far() {
		for _, o := range [][7]int{{n}, {0, n, n}, {0, n, 0, n}, {0, n, n, n, n, n, n}, {0, 0, n, -n}, {n, n, n}} {
			if is, e := press.Valid(p, []api.Weighed{{Pressing: 1, Ounces: o}}); is || e != api.OK {
				t.Error(o, is, e)
			}
		}
		if is, e := press.Valid(p, []api.Weighed{{Pressing: n}}); is || e != api.OK {
			t.Error(n, is, e)
		}
	}
	for _, q := range []api.Press{
		lead([]int{0}, note(1, 1, 1, 5, 9), note(2, 1, 1, 2, 4), note(3, 1, 2, 5, 5)),
		lead([]int{2, 0}, note(1, 1, 6, 5, 9), note(2, 1, 6, 2, 4)),
		lead([]int{0}, note(1, 1, 6, 5, 9)),
	} {
		for n := range 12 {
			for m := range 12 {
				for _, o := range [][7]int{{0, n, m}, {0, n, 0, 0, 0, 0, m}} {
					l := []api.Weighed{{Pressing: 1, Ounces: o}, {Pressing: 2, Ounces: [7]int{0, 0, o[6]}}}[:len(q.Pressings)]
					if is, e := press.Valid(q, l); is || e != api.OK {
						t.Error(q, l, is, e)
					}
				}
			}
		}
	}
	for _, l := range [][]api.Weighed{nil, {}, make([]api.Weighed, 1)[:0]} {
		if is, e := press.Valid(api.Press{}, l); !is || e != api.OK {
			t.Error(l, is, e)
		}
	}
	if is, e := press.Valid(api.Press{}, make([]api.Weighed, 1)); is || e != api.OK {
		t.Error(is, e)
	}
}

// priced is the sum of prices, by the chapter; the pressings with a price other than 0 are bits.
func priced(p api.Press, kind, set int) int {
	one := 1
	if kind == api.WeighSeed {
		one = -1
	}
	price := func(id int) int {
		for i, x := range p.Pressings {
			if x.Id == id {
				return set >> i & 1 * one
			}
		}
		return 0
	}
	sum := 0
	for i, x := range p.Pressings {
		for _, k := range kinds() {
			n := -price(x.Id)
			if k == api.WeighSeed {
				n = price(x.Id)
			}
			if k == api.WeighParings {
				n = price(x.To) - price(x.Id)
			}
			if k == kind {
				n++
			}
			s := notes(p, i, k)
			sum += max(n*s.Lo, n*s.Hi)
		}
	}
	return sum
}

// TestProof checks P2.4 and P2.12: the prices prove the greatest number, and fewer, or others before them, do not.
func TestProof(t *testing.T) {
	proofs := map[int]int{}
	check := func(p api.Press) {
		t.Helper()
		for _, kind := range kinds()[:5] {
			all, e := press.All(p, kind)
			if e != api.OK {
				return
			}
			var want []int
			found := false
			for set := range 1 << len(p.Pressings) {
				sum := priced(p, kind, set)
				if sum < all.Hi {
					t.Fatal(p, kind, set, sum, all)
				}
				var l []int
				for i, x := range p.Pressings {
					if set>>i&1 == 1 {
						l = append(l, x.Id)
					}
				}
				if sum == all.Hi && (!found || len(l) < len(want) || len(l) == len(want) && slices.Compare(l, want) < 0) {
					want, found = l, true
				}
			}
			if l, e := press.Proof(p, kind); !found || !slices.Equal(l, want) || e != api.OK {
				t.Fatal(p, kind, l, want, e)
			}
			proofs[len(want)]++
		}
	}
	presses(7, 300, 7, func(r *rand.Rand, p api.Press) { check(p) })
	counted(8, 300, func(r *rand.Rand, p api.Press, all [][]api.Weighed) { check(p) })
	for n := range 4 {
		if proofs[n] < 10 {
			t.Error(proofs)
		}
	}
	if l, e := press.Proof(api.Press{}, 1); len(l) > 0 || e != api.OK {
		t.Error(l, e)
	}
}

// TestUnder checks P2.2: all pressings are told whose parings come to one by any way, and no other ones.
func TestUnder(t *testing.T) {
	r := rand.New(rand.NewSource(9))
	for range 300 {
		p := lead(shape(r, r.Intn(10)+1))
		for i := range p.Pressings {
			p.Pressings[i].Id *= 7
			p.Pressings[i].To *= 7
		}
		var goes func(id, to int) bool
		goes = func(id, to int) bool {
			return id != 0 && (id == to || goes(p.Pressings[id/7-1].To, to))
		}
		for _, x := range p.Pressings {
			var want []int
			for _, y := range p.Pressings {
				if y.Id != x.Id && goes(y.Id, x.Id) {
					want = append(want, y.Id)
				}
			}
			if l, e := press.Under(p, x.Id); !slices.Equal(l, want) || e != api.OK {
				t.Fatal(p, x.Id, l, want, e)
			}
		}
	}
	bad := lead([]int{3, 3, 0}, note(1, 1, 1, 0, 0), note(2, 1, 2, 1, 1))
	if l, e := press.Under(bad, 3); !slices.Equal(l, []int{1, 2}) || e != api.OK {
		t.Error(l, e) // there is no truth, but this is not asked
	}
}

// TestNarrows checks P2.15: with a weighing more each span is within the one before, and what is known stays so.
func TestNarrows(t *testing.T) {
	inside := func(s, of api.Span) bool { return s.Lo >= of.Lo && s.Hi <= of.Hi }
	narrowed := 0
	presses(10, 200, 5, func(r *rand.Rand, p api.Press) {
		if len(p.Pressings) == 0 || len(p.Weighings) > 29 {
			return
		}
		lo := r.Intn(1000)
		q, e := press.Weigh(p, note(9999, r.Intn(len(p.Pressings))+1, r.Intn(6)+1, lo, lo+r.Intn(100000)))
		if is, _ := press.Holds(q); e != api.OK || !is {
			return
		}
		for _, x := range p.Pressings {
			for _, kind := range kinds() {
				a, e := press.Span(p, x.Id, kind)
				b, f := press.Span(q, x.Id, kind)
				if !inside(b, a) || e != api.OK || f != api.OK {
					t.Fatal(p, q, a, b, e, f)
				}
				if a != b {
					narrowed++
				}
			}
			a, _ := press.In(p, x.Id)
			b, _ := press.In(q, x.Id)
			if !inside(b, a) {
				t.Fatal(p, q, a, b)
			}
			least, most, e := press.Yield(p, x.Id)
			low, high, f := press.Yield(q, x.Id)
			if e == api.OK && f == api.OK && (rat(low).Cmp(rat(least)) < 0 || rat(high).Cmp(rat(most)) > 0) || e != api.OK && e != f {
				t.Fatal(p, q, least, most, low, high, e, f)
			}
			k, _ := press.Less(p, x.Id, part(1, 3))
			m, _ := press.Less(q, x.Id, part(1, 3))
			if k != api.KnownOpen && m != k {
				t.Fatal(p, q, k, m)
			}
		}
		for _, kind := range kinds()[:5] {
			a, _ := press.All(p, kind)
			b, _ := press.All(q, kind)
			if !inside(b, a) {
				t.Fatal(p, q, kind, a, b)
			}
		}
	})
	if narrowed < 100 {
		t.Error(narrowed)
	}
}
