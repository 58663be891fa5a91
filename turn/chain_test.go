package turn_test

import (
	"math/rand"
	"slices"
	"testing"

	"oilcake/api"
	"oilcake/turn"
)

// TestExamplesChain checks P9.3 and P9.4 by the chapter's examples.
func TestExamplesChain(t *testing.T) {
	r := example()
	if l, e := turn.Chain(r, not(1, 1), was(3, 2)); !slices.Equal(l, ints(1, 2)) || e != api.OK {
		t.Error(l, e)
	}
	if l, e := turn.Chain(r, was(1, 2), was(1, 1)); !slices.Equal(l, ints(3, 2, 1)) || e != api.OK {
		t.Error(l, e)
	}
	if _, _, _, e := turn.Clash(r); e != api.ErrNone {
		t.Error(e)
	}
	x, down, up, e := turn.Clash(contradicted())
	if x != was(1, 1) || !slices.Equal(down, ints(5)) || !slices.Equal(up, ints(1, 2, 6, 2, 1)) || e != api.OK {
		t.Error(x, down, up, e)
	}
}

// TestChainFirst checks P9.3: the first chain is a short one, and of those the one with the lesser Numbers; a note may be used twice, and one of a single thing leads from its contrary; from a thing to itself it is empty.
func TestChainFirst(t *testing.T) {
	a, b, c, d := was(1, 1), was(2, 1), was(1, 2), was(2, 2)
	na, nb, nc, nd := contrary(a), contrary(b), contrary(c), contrary(d)
	for i, x := range []struct {
		r        api.Roll
		from, to api.Thing
		want     []int
		e        api.Errno
	}{
		{with(blank(2, 2)), a, a, nil, api.OK},
		{with(blank(2, 2)), a, na, nil, api.ErrNone},
		{with(blank(2, 2), na, b), a, b, ints(1), api.OK},
		{with(blank(2, 2), b, na), a, b, ints(1), api.OK},
		{with(blank(2, 2), b, na), nb, na, ints(1), api.OK},
		{with(blank(2, 2), b, na), b, a, nil, api.ErrNone},
		{with(blank(2, 2), na, na), a, na, ints(1), api.OK},
		{with(blank(2, 2), na, na), na, a, nil, api.ErrNone},
		{with(blank(2, 2), na, a), a, a, nil, api.OK},
		{with(blank(2, 2), na, a), a, na, nil, api.ErrNone},
		{with(blank(2, 2), na, b, na, b), a, b, ints(1), api.OK},
		{with(blank(2, 2), na, c, nc, b, na, b), a, b, ints(3), api.OK},              // a short one first
		{with(blank(2, 2), nc, b, nd, b, na, c, na, d), a, b, ints(3, 1), api.OK},    // the first Number differs
		{with(blank(2, 2), nc, b, na, d, nd, b, na, c), a, b, ints(2, 3), api.OK},    // though its second one is greater
		{with(blank(2, 2), na, c, na, c, nc, b, nc, b), a, b, ints(1, 3), api.OK},    // at each step
		{with(blank(2, 2), na, b, nb, nb), a, na, ints(1, 2, 1), api.OK},             // there and back
		{with(blank(2, 2), na, b, nb, c, nc, nd), a, nd, ints(1, 2, 3), api.OK},      // all of them
		{with(blank(2, 2), na, b, nb, c, nc, nd), d, na, ints(3, 2, 1), api.OK},      // turned round
		{with(blank(2, 2), a, a, na, na), a, na, ints(2), api.OK},                    // without a truth
		{with(blank(2, 2), na, b, nc, d, nb, nb), c, b, nil, api.ErrNone},            // known, but not by a chain
		{with(blank(2, 2), na, nb, nb, c, nc, d), a, d, nil, api.ErrNone},            // a chain to b's contrary alone
		{with(blank(2, 2), na, nb, b, c, nc, d, nb, c), a, d, ints(1, 2, 3), api.OK}, // by it
	} {
		if l, e := turn.Chain(x.r, x.from, x.to); !slices.Equal(l, x.want) || e != x.e {
			t.Error(i, l, e)
		}
	}
}

// checkChains checks all chains from things by what another way tells.
func checkChains(t *testing.T, r api.Roll, from api.Thing, want map[api.Thing][]int) {
	t.Helper()
	for _, to := range things(r) {
		chain, is := want[to]
		l, e := turn.Chain(r, from, to)
		if !slices.Equal(l, chain) || is != (e == api.OK) || !is && e != api.ErrNone {
			t.Error(r, from, to, l, chain, e)
		}
	}
}

// TestChains checks P9.3 by all lists of notes of small rolls, and by chains that are bettered until none is.
func TestChains(t *testing.T) {
	some(11, 250, 3, 5, func(r *rand.Rand, l api.Roll) {
		for _, x := range things(l) {
			checkChains(t, l, x, shorts(l, x, 5))
		}
	})
	some(12, 60, 16, 24, func(r *rand.Rand, l api.Roll) {
		own := things(l)
		r.Shuffle(len(own), func(i, j int) { own[i], own[j] = own[j], own[i] })
		for _, x := range own[:min(6, len(own))] {
			checkChains(t, l, x, firsts(l, x))
		}
	})
}

// TestLongChains checks P9.3: chains lead through all things of the greatest roll.
func TestLongChains(t *testing.T) {
	r := blank(4, 4)
	own := things(r)[:16]
	var l []api.Thing
	for i, x := range own[1:] {
		l = append(l, contrary(own[i]), x)
	}
	l = append(l, contrary(own[15]), contrary(own[15]))
	r = with(r, l...)
	want := ints(1, 2, 3, 4, 5, 6, 7, 8, 9, 10, 11, 12, 13, 14, 15, 16, 15, 14, 13, 12, 11, 10, 9, 8, 7, 6, 5, 4, 3, 2, 1)
	if chain, e := turn.Chain(r, own[0], contrary(own[0])); !slices.Equal(chain, want) || e != api.OK {
		t.Error(chain, e)
	}
	if k, e := turn.Known(r, own[0]); k != api.KnownNo || e != api.OK {
		t.Error(k, e)
	}
}

// TestFollowing checks P9.11: if there is a truth, a thing follows from another one just if a chain leads there, or the one is known, or the contrary of the other.
func TestFollowing(t *testing.T) {
	some(13, 150, 12, 16, func(r *rand.Rand, l api.Roll) {
		if count(t, l) == 0 {
			return
		}
		for _, x := range pairs(l) {
			_, none := turn.Chain(l, x[0], x[1])
			end, _ := turn.Known(l, x[1])
			begin, _ := turn.Known(l, contrary(x[0]))
			is, e := turn.Follows(l, x[0], x[1])
			if is != (none == api.OK || end == api.KnownYes || begin == api.KnownYes) || e != api.OK {
				t.Error(l, x, is, e)
			}
		}
	})
}

// TestTurned checks P9.14: a chain, turned round, leads from the contrary of its end to that of its beginning, and so does no shorter one.
func TestTurned(t *testing.T) {
	some(14, 150, 12, 20, func(r *rand.Rand, l api.Roll) {
		for _, x := range pairs(l) {
			chain, e := turn.Chain(l, x[0], x[1])
			back, f := turn.Chain(l, contrary(x[1]), contrary(x[0]))
			if e != f || len(chain) != len(back) {
				t.Fatal(l, x, chain, back, e, f)
			}
			slices.Reverse(chain)
			if end, leads := walk(l, contrary(x[1]), chain); e == api.OK && (!leads || end != contrary(x[0])) {
				t.Error(l, x, chain)
			}
		}
	})
}

// TestClashFirst checks P9.4: both chains are short together; of several things the one of the first pressing counts, then that of the first man.
func TestClashFirst(t *testing.T) {
	a, b, c, d := was(1, 1), was(2, 1), was(1, 2), was(2, 2)
	na, nb, nc, nd := contrary(a), contrary(b), contrary(c), contrary(d)
	for i, x := range []struct {
		r        api.Roll
		want     api.Thing
		down, up []int
	}{
		{with(blank(2, 2), a, a, na, na), a, ints(2), ints(1)},
		{with(blank(2, 2), c, c, nc, nc, b, b, nb, nb), b, ints(4), ints(3)},
		{with(blank(2, 2), b, b, nb, nb, a, a, na, na), a, ints(4), ints(3)},
		{with(blank(2, 2), d, d, nd, nd, c, c, nc, nc), c, ints(4), ints(3)},
		{with(blank(2, 2), a, b, a, nb, na, b, na, nb), a, ints(3, 4), ints(1, 2)}, // not of b, which is as short
		{with(blank(2, 2), a, b, a, nb, na, na, d, d, nd, nd), d, ints(5), ints(4)},
		{with(blank(2, 2), na, b, nb, nb, a, c, nc, nc), a, ints(1, 2, 1), ints(3, 4, 3)},
		{with(blank(2, 2), nd, nd, na, b, nb, na, a, c, nc, d), a, ints(2, 3), ints(4, 5, 1, 5, 4)}, // for d they are 1 and 6
	} {
		y, down, up, e := turn.Clash(x.r)
		if y != x.want || !slices.Equal(down, x.down) || !slices.Equal(up, x.up) || e != api.OK {
			t.Error(i, y, down, up, e)
		}
	}
}

// clash is what Clash should tell, by all first chains.
func clash(r api.Roll) (x api.Thing, down, up []int, is bool) {
	for _, y := range things(r) {
		if !y.There {
			continue
		}
		d, falls := firsts(r, y)[contrary(y)]
		u, rises := firsts(r, contrary(y))[y]
		if falls && rises && (!is || len(d)+len(u) < len(down)+len(up)) {
			x, down, up, is = y, d, u, true
		}
	}
	return x, down, up, is
}

// TestClashes checks P9.4 by all first chains of random rolls, and P9.12: there is no truth just if two chains contradict each other, and the notes of these alone have none.
func TestClashes(t *testing.T) {
	clashed := 0
	check := func(r *rand.Rand, l api.Roll) {
		want, wantDown, wantUp, is := clash(l)
		x, down, up, e := turn.Clash(l)
		if is != (e == api.OK) || !is && e != api.ErrNone || x != want || !slices.Equal(down, wantDown) || !slices.Equal(up, wantUp) {
			t.Error(l, x, down, up, e, want, wantDown, wantUp)
		}
		if is != (count(t, l) == 0) {
			t.Error(l, is)
		}
		if e != api.OK {
			return
		}
		clashed++
		if !x.There {
			t.Error(l, x)
		}
		if end, leads := walk(l, x, down); end != contrary(x) || !leads {
			t.Error(l, x, down)
		}
		if end, leads := walk(l, contrary(x), up); end != x || !leads {
			t.Error(l, x, up)
		}
		alone := l
		alone.Notes = slices.DeleteFunc(slices.Clone(l.Notes), func(y api.Note) bool {
			return !slices.Contains(down, y.Number) && !slices.Contains(up, y.Number)
		})
		if count(t, alone) != 0 {
			t.Error(l, alone)
		}
	}
	some(15, 300, 4, 10, check)
	some(16, 60, 16, 24, check)
	if clashed < 50 {
		t.Error(clashed)
	}
}
