package mark_test

import (
	"math/rand"
	"slices"
	"testing"

	"oilcake/api"
	"oilcake/mark"
)

// TestKnowExamples checks P6.1 to P6.3 by the chapter's examples, and by that of the document.
func TestKnowExamples(t *testing.T) {
	m := example()
	if is, e := mark.Holds(m); !is || e != api.OK {
		t.Error(is, e)
	}
	if l, e := mark.May(m, 2); !slices.Equal(l, []int{1, 2}) || e != api.OK {
		t.Error(l, e)
	}
	if l, e := mark.Must(m, 2); !slices.Equal(l, []int{1}) || e != api.OK {
		t.Error(l, e)
	}
	for batch, want := range map[int]uint8{1: api.KnownNo, 2: api.KnownOpen, 3: api.KnownOpen, 4: api.KnownNo, 5: api.KnownOpen} {
		if k, e := mark.Pure(m, batch); k != want || e != api.OK {
			t.Error(batch, k, e)
		}
	}
	for number, want := range map[int]uint8{1: api.KnownOpen, 2: api.KnownYes, 4: api.KnownYes} {
		if k, e := mark.Mark(m, number); k != want || e != api.OK {
			t.Error(number, k, e)
		}
	}
	if l, e := mark.Bad(m, 1); !slices.Equal(l, []int{2, 3, 5}) || e != api.OK {
		t.Error(l, e)
	}
	if k, e := mark.Mark(example(trial(9, 5, 2, true)), 1); k != api.KnownNo || e != api.OK {
		t.Error(k, e)
	}
	if is, e := mark.Holds(example(trial(1, 1, 1, true))); is || e != api.OK {
		t.Error(is, e)
	}
	if k, e := mark.Pure(line(3, 1), 2); k != api.KnownNo || e != api.OK { // linseed behind another seed
		t.Error(k, e)
	}
}

// TestStone checks P6.2: a batch gets all that the last one before it on its own stone holds, as far back as the stone was not cleaned, and parings with all that is in them.
func TestStone(t *testing.T) {
	m := line(2, 1, 3, 1, 4, 1)
	m.Batches[1].Stone, m.Batches[3].Stone = 2, 2
	m.Batches[4].Clean = api.KnownYes
	m.Batches[3].From, m.Batches[3].Round = 3, api.KnownYes
	m.Batches[5].From = 4 // but none of its parings
	for i, want := range [][]int{{2}, {1}, {2, 3}, {1, 2, 3}, {4}, {1, 4}} {
		for _, f := range []func(api.Marks, int) ([]int, api.Errno){mark.May, mark.Must} {
			if l, e := f(m, i+1); !slices.Equal(l, want) || e != api.OK {
				t.Error(i+1, l, e, want)
			}
		}
	}
	// what goes round goes on along the stone
	m.Batches[5].Round = api.KnownOpen
	if l, e := mark.May(m, 6); !slices.Equal(l, []int{1, 2, 3, 4}) || e != api.OK {
		t.Error(l, e)
	}
	if l, e := mark.Must(m, 6); !slices.Equal(l, []int{1, 4}) || e != api.OK {
		t.Error(l, e)
	}
}

// TestOpenFirst checks P6.1 and P6.2: what is open counts as open also where it makes no difference, and a trial can tell what is open.
func TestOpenFirst(t *testing.T) {
	m := line(1, 2, 1, 1)
	m.Batches[0].Clean, m.Batches[3].Clean = api.KnownOpen, api.KnownOpen
	m.Batches[2].Clean, m.Batches[2].From, m.Batches[2].Round = api.KnownOpen, 1, api.KnownOpen
	for _, x := range []struct {
		trials []api.Trial
		want   uint8
	}{
		{nil, api.KnownOpen},
		{[]api.Trial{trial(1, 3, 2, true)}, api.KnownOpen},
		{[]api.Trial{trial(1, 3, 2, false)}, api.KnownYes},
		{[]api.Trial{trial(1, 4, 2, true)}, api.KnownNo},
		{[]api.Trial{trial(1, 4, 2, false)}, api.KnownYes},
		{[]api.Trial{trial(1, 3, 2, true), trial(2, 4, 2, false)}, api.KnownYes},
		{[]api.Trial{trial(7, 3, 1, true), trial(8, 3, 3, false)}, api.KnownOpen},
	} {
		if k, e := mark.Pure(tried(m, x.trials...), 4); k != x.want || e != api.OK {
			t.Error(x.trials, k, e)
		}
	}
	for _, x := range []api.Trial{trial(1, 2, 2, false), trial(1, 4, 1, false), trial(1, 4, 3, true)} {
		if is, e := mark.Holds(tried(m, x)); is || e != api.OK {
			t.Error(x, is, e)
		}
	}
}

// TestKnownAll checks P6.1 to P6.3, P6.9 and P6.10: by all that can be so, whether there is a truth, what batches hold, which are pure, and which need not be; no more and no less.
func TestKnownAll(t *testing.T) {
	pure, none := map[uint8]int{}, 0
	r := rand.New(rand.NewSource(1))
	for range 1500 {
		m := random(r, r.Intn(8), 5)
		all := truths(m)
		if is, e := mark.Holds(m); is != (len(all) > 0) || e != api.OK {
			t.Fatal(m, is, e)
		}
		if len(all) == 0 {
			none++
			continue
		}
		for _, b := range m.Batches {
			pure[checkBatch(t, m, all, b.Id)]++
		}
		for number := 1; number <= 4; number++ {
			checkMark(t, m, all, number)
		}
	}
	if none < 30 || pure[api.KnownNo] < 200 || pure[api.KnownOpen] < 200 || pure[api.KnownYes] < 200 {
		t.Error(none, pure)
	}
}

func checkBatch(t *testing.T, m api.Marks, all []world, id int) uint8 {
	var may, must []int
	for kind := 1; kind <= 4; kind++ {
		k := known(all, func(w world) bool { return w.holds(m, id, kind) })
		if k != api.KnownNo {
			may = append(may, kind)
		}
		if k == api.KnownYes {
			must = append(must, kind)
		}
	}
	if l, e := mark.May(m, id); !slices.Equal(l, may) || e != api.OK {
		t.Fatal(m, id, l, e, may)
	}
	if l, e := mark.Must(m, id); !slices.Equal(l, must) || e != api.OK {
		t.Fatal(m, id, l, e, must)
	}
	want := known(all, func(w world) bool { return w.pure(m, id) })
	if k, e := mark.Pure(m, id); k != want || e != api.OK {
		t.Fatal(m, id, k, e, want)
	}
	return want
}

func checkMark(t *testing.T, m api.Marks, all []world, number int) {
	want := known(all, func(w world) bool { return len(w.bad(m, number)) == 0 })
	if k, e := mark.Mark(m, number); k != want || e != api.OK {
		t.Fatal(m, number, k, e, want)
	}
	var bad []int
	for _, b := range m.Batches {
		if slices.ContainsFunc(all, func(w world) bool { return slices.Contains(w.bad(m, number), b.Id) }) {
			bad = append(bad, b.Id)
		}
	}
	if l, e := mark.Bad(m, number); !slices.Equal(l, bad) || e != api.OK {
		t.Fatal(m, number, l, e, bad)
	}
}

// TestOneTrialMore checks P6.15: a trial more never adds a possibility, and what one that finds a kind leaves, and one that does not find it, is together all that was.
func TestOneTrialMore(t *testing.T) {
	split := 0
	marks(2, 150, 6, 5, func(r *rand.Rand, m api.Marks) {
		for _, b := range m.Batches {
			for kind := 1; kind <= 4; kind++ {
				x := trial(9999, b.Id, kind, true)
				yes, e := mark.Try(m, x)
				x.Found = false
				no, f := mark.Try(m, x)
				if e != api.OK || f != api.OK {
					t.Fatal(m, x, e, f)
				}
				one, _ := mark.Holds(yes)
				other, _ := mark.Holds(no)
				if !one && !other {
					t.Fatal(m, x)
				}
				if one && other {
					split++
				}
				checkSplit(t, m, yes, no)
			}
		}
	})
	if split < 60 {
		t.Error(split)
	}
}

// checkSplit checks that what is known of each batch is what is known in either case.
func checkSplit(t *testing.T, m, yes, no api.Marks) {
	for _, b := range m.Batches {
		may, _ := mark.May(m, b.Id)
		var both []int
		for _, n := range []api.Marks{yes, no} {
			l, _ := mark.May(n, b.Id)
			both = append(both, l...)
		}
		slices.Sort(both)
		if both = slices.Compact(both); !slices.Equal(may, both) {
			t.Fatal(m, yes, no, b, may, both)
		}
		k, _ := mark.Pure(m, b.Id)
		for _, n := range []api.Marks{yes, no} {
			if j, e := mark.Pure(n, b.Id); e == api.OK && k != api.KnownOpen && j != k {
				t.Fatal(m, n, b, k, j)
			}
		}
	}
}
