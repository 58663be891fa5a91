package mark_test

import (
	"cmp"
	"math/rand"
	"slices"
	"testing"

	"oilcake/api"
	"oilcake/mark"
)

// TestFewestExamples checks P6.4 and P6.5 by the chapter's examples.
func TestFewestExamples(t *testing.T) {
	m := example()
	for _, x := range []struct {
		batch int
		want  []int
	}{{5, []int{1, 2, 5}}, {3, []int{1, 3}}, {1, []int{1}}} {
		if l, e := mark.Way(m, x.batch, 2); !slices.Equal(l, x.want) || e != api.OK {
			t.Error(x, l, e)
		}
	}
	if l, e := mark.Clean(m, 1); len(l) > 0 || e != api.ErrNone {
		t.Error(l, e)
	}
	dry := with(m, func(m *api.Marks) { m.Batches[2].Round = api.KnownNo })
	if l, e := mark.Clean(dry, 1); !slices.Equal(l, []int{2}) || e != api.OK {
		t.Error(l, e)
	}
	if l, e := mark.Bad(dry, 1); !slices.Equal(l, []int{2, 5}) || e != api.OK {
		t.Error(l, e)
	}
	if l, e := mark.Tests(m, 1); !slices.Equal(l, []int{2, 3}) || e != api.OK {
		t.Error(l, e)
	}
	if l, e := mark.False(example(trial(1, 1, 1, true))); !slices.Equal(l, []int{1}) || e != api.OK {
		t.Error(l, e)
	}
	if l, e := mark.False(m); len(l) > 0 || e != api.OK {
		t.Error(l, e)
	}
}

// came is whether a kind came into the last of some batches by these, one after the other.
func (w world) came(m api.Marks, l []int, kind int) bool {
	for i := 1; i < len(l); i++ {
		if !w.gave(m, l[i-1], l[i]) {
			return false
		}
	}
	return find(m, l[0]).Kind == kind
}

// TestWayAll checks P6.4 and P6.12: of all lists of batches that end with one, the first by which a kind can have come; there is one just if the batch may hold the kind.
func TestWayAll(t *testing.T) {
	lengths, none := map[int]int{}, 0
	marks(3, 400, 7, 5, func(r *rand.Rand, m api.Marks) {
		all := truths(m)
		for i, b := range m.Batches {
			ends := lists(ids(m)[:i])
			for k := range ends {
				ends[k] = append(ends[k], b.Id)
			}
			slices.SortFunc(ends, func(x, y []int) int { return cmp.Or(len(x)-len(y), slices.Compare(x, y)) })
			for kind := 1; kind <= 4; kind++ {
				want, can := first(ends, func(l []int) bool {
					return slices.ContainsFunc(all, func(w world) bool { return w.came(m, l, kind) })
				})
				e := api.OK
				if !can {
					e = api.ErrNone
					none++
				}
				if l, f := mark.Way(m, b.Id, kind); !slices.Equal(l, want) || f != e {
					t.Fatal(m, b, kind, l, f, want)
				}
				lengths[len(want)]++
			}
		}
	})
	if none < 500 || lengths[2] < 100 || lengths[3] < 30 || lengths[4] < 5 {
		t.Error(lengths, none)
	}
}

// TestWayOrder checks P6.4: fewer batches come first, also if their Ids are greater, then lesser Ids.
func TestWayOrder(t *testing.T) {
	m := line(2, 2, 1, 1, 1)
	m.Batches[4].From, m.Batches[4].Round = 1, api.KnownYes
	if l, e := mark.Way(m, 5, 2); !slices.Equal(l, []int{1, 5}) || e != api.OK {
		t.Error(l, e)
	}
	m.Batches[4].From = 2
	if l, e := mark.Way(m, 5, 2); !slices.Equal(l, []int{2, 5}) || e != api.OK {
		t.Error(l, e)
	}
	// 3 by the stone from 2, or by parings from 1, both two batches: the first Id is less
	m = line(2, 2, 1)
	m.Batches[2].From, m.Batches[2].Round, m.Batches[2].Clean = 1, api.KnownOpen, api.KnownOpen
	for _, x := range []struct {
		trials []api.Trial
		want   []int
	}{{nil, []int{1, 3}}, {[]api.Trial{trial(1, 3, 2, true)}, []int{1, 3}}} {
		if l, e := mark.Way(tried(m, x.trials...), 3, 2); !slices.Equal(l, x.want) || e != api.OK {
			t.Error(x, l, e)
		}
	}
}

// TestWayOneTruth checks P6.4: a list is none of which no truth has all steps, though each of them is in some.
func TestWayOneTruth(t *testing.T) {
	m := api.Marks{Batches: []api.Batch{
		{Id: 1, Kind: 2, Stone: 1, Cakes: 1},
		{Id: 2, Kind: 3, Stone: 1, Clean: api.KnownOpen, Cakes: 1},
		{Id: 3, Kind: 1, Stone: 2, From: 2, Round: api.KnownOpen, Cakes: 1},
		{Id: 4, Kind: 1, Stone: 2, Clean: api.KnownYes, From: 1, Round: api.KnownOpen, Cakes: 1},
		{Id: 5, Kind: 1, Stone: 3, From: 3, Round: api.KnownOpen, Cakes: 1},
		{Id: 6, Kind: 1, Stone: 3, From: 4, Round: api.KnownYes, Cakes: 1},
	}}
	// 6 has 2 by 1, 4, 6 in some truth
	if l, e := mark.Way(m, 6, 2); !slices.Equal(l, []int{1, 4, 6}) || e != api.OK {
		t.Error(l, e)
	}
	// 4 has none, if it was not found: by the stones then
	if l, e := mark.Way(tried(m, trial(1, 4, 2, false)), 6, 2); !slices.Equal(l, []int{1, 2, 3, 5, 6}) || e != api.OK {
		t.Error(l, e)
	}
	// 3 has none of 2: 1, 2, 3 is no way, though 1, 2 and 2, 3 are
	n := tried(m, trial(1, 4, 2, false), trial(2, 3, 2, false))
	if l, e := mark.Way(n, 2, 2); !slices.Equal(l, []int{1, 2}) || e != api.OK {
		t.Error(l, e)
	}
	if l, e := mark.Way(n, 3, 3); !slices.Equal(l, []int{2, 3}) || e != api.OK {
		t.Error(l, e)
	}
	if l, e := mark.Way(n, 6, 2); len(l) > 0 || e != api.ErrNone {
		t.Error(l, e)
	}
}

// swept is what would be so, had the stone been cleaned before some batches.
func (w world) swept(l []int) world {
	v := world{map[int]bool{}, w.round}
	for id, so := range w.clean {
		v.clean[id] = so || slices.Contains(l, id)
	}
	return v
}

// TestCleanAll checks P6.5 and P6.13: of all lists of batches the first with which a mark would be pure in every truth; with no fewer ones it would be.
func TestCleanAll(t *testing.T) {
	lengths, none := map[int]int{}, 0
	marks(4, 1500, 8, 6, func(r *rand.Rand, m api.Marks) {
		if r.Intn(4) > 0 { // mostly only what the stones bring
			for i := range m.Batches {
				if m.Batches[i].Mark > 0 {
					m.Batches[i].Kind = 1
				}
				if r.Intn(4) > 0 {
					m.Batches[i].Round = api.KnownNo
				}
			}
		}
		all := truths(m)
		for number := 1; number <= 3 && len(all) > 0; number++ {
			want, is := first(lists(ids(m)), func(l []int) bool {
				return !slices.ContainsFunc(all, func(w world) bool { return len(w.swept(l).bad(m, number)) > 0 })
			})
			e := api.OK
			if !is {
				e = api.ErrNone
				none++
			}
			if l, f := mark.Clean(m, number); !slices.Equal(l, want) || f != e {
				t.Fatal(m, number, l, f, want)
			}
			lengths[len(want)]++
		}
	})
	if none < 60 || lengths[1] < 200 || lengths[2] < 20 {
		t.Error(lengths, none)
	}
}

// TestCleanOrder checks P6.5: one cleaning for several batches, the first of several such lists, and truths as they are with all trials.
func TestCleanOrder(t *testing.T) {
	for _, x := range []struct {
		m    api.Marks
		want []int
	}{
		{with(line(2, 1, 1, 1), func(m *api.Marks) { m.Batches[1].Mark, m.Batches[2].Mark, m.Batches[0].Mark = 0, 0, 0 }), []int{2}},
		{with(line(2, 1, 3, 1), func(m *api.Marks) { m.Batches[0].Mark, m.Batches[2].Mark = 0, 0 }), []int{2, 4}},
		{line(1, 1, 1), nil},
		{with(line(2, 1), func(m *api.Marks) { m.Batches[0].Mark, m.Batches[1].Clean = 0, api.KnownYes }), nil},
		{with(line(2, 1), func(m *api.Marks) { m.Batches[0].Mark, m.Batches[1].Clean = 0, api.KnownOpen }), []int{2}},
		// 2 was found in it: the stone was not cleaned, and would have been
		{with(line(2, 1), func(m *api.Marks) {
			m.Batches[0].Mark, m.Batches[1].Clean, m.Trials = 0, api.KnownOpen, []api.Trial{trial(3, 2, 2, true)}
		}), []int{2}},
		{with(line(2, 1), func(m *api.Marks) {
			m.Batches[0].Mark, m.Batches[1].Clean, m.Trials = 0, api.KnownOpen, []api.Trial{trial(3, 2, 2, false)}
		}), nil},
	} {
		if l, e := mark.Clean(x.m, 1); !slices.Equal(l, x.want) || e != api.OK {
			t.Error(x.m, l, e, x.want)
		}
	}
	if l, e := mark.Clean(line(2, 1), 1); len(l) > 0 || e != api.ErrNone { // no cleaning makes 1 linseed
		t.Error(l, e)
	}
}

// shows is what a batch holds, of each kind.
func (w world) shows(m api.Marks, id int) (kinds [5]bool) {
	for kind := 1; kind <= 4; kind++ {
		kinds[kind] = w.holds(m, id, kind)
	}
	return kinds
}

// agree is whether all truths of which some batches look the same tell the same of a mark.
func agree(m api.Marks, all []world, l []int, number int) bool {
	for _, w := range all {
		for _, v := range all {
			differ := slices.ContainsFunc(l, func(id int) bool { return w.shows(m, id) != v.shows(m, id) })
			if !differ && (len(w.bad(m, number)) == 0) != (len(v.bad(m, number)) == 0) {
				return false
			}
		}
	}
	return true
}

// TestTestsAll checks P6.5 and P6.14: of all lists of batches the first that tells whether a mark is pure; no fewer ones do.
func TestTestsAll(t *testing.T) {
	lengths := map[int]int{}
	marks(5, 600, 7, 6, func(r *rand.Rand, m api.Marks) {
		all := truths(m)
		for number := 1; number <= 2; number++ {
			want, _ := first(lists(ids(m)), func(l []int) bool { return agree(m, all, l, number) })
			if l, e := mark.Tests(m, number); !slices.Equal(l, want) || e != api.OK {
				t.Fatal(m, number, l, e, want)
			}
			lengths[len(want)]++
		}
	})
	if lengths[0] < 50 || lengths[1] < 30 || lengths[2] < 5 {
		t.Error(lengths)
	}
}

// TestTestsOther checks P6.5: a batch of another mark, or of none, may tell it, and the first of several that do counts; what is known already needs no tests.
func TestTestsOther(t *testing.T) {
	m := line(2, 1, 1, 1)
	m.Batches[1].Clean = api.KnownOpen
	m.Batches[0].Mark, m.Batches[1].Mark, m.Batches[2].Mark = 0, 0, 2
	if l, e := mark.Tests(m, 1); !slices.Equal(l, []int{2}) || e != api.OK {
		t.Error(l, e)
	}
	m.Batches[1].Clean, m.Batches[2].Clean = api.KnownNo, api.KnownOpen
	if l, e := mark.Tests(m, 1); !slices.Equal(l, []int{3}) || e != api.OK {
		t.Error(l, e)
	}
	m.Batches[1].Clean = api.KnownOpen
	if l, e := mark.Tests(m, 1); !slices.Equal(l, []int{3}) || e != api.OK {
		t.Error(l, e)
	}
	for _, found := range []bool{true, false} {
		if l, e := mark.Tests(tried(m, trial(1, 4, 2, found)), 1); len(l) > 0 || e != api.OK {
			t.Error(found, l, e)
		}
	}
	if l, e := mark.Tests(m, 3); len(l) > 0 || e != api.OK {
		t.Error(l, e)
	}
}

// TestFalseAll checks P6.5, P6.15 and N7: of all lists of trials the first without which there is a truth, unless it is longer than 3; without fewer there is none.
func TestFalseAll(t *testing.T) {
	lengths := map[int]int{}
	r := rand.New(rand.NewSource(6))
	for range 2500 {
		m := random(r, 1+r.Intn(5), 3)
		for i := range m.Trials { // more of them false
			if r.Intn(3) == 0 {
				m.Trials[i].Found = !m.Trials[i].Found
			}
		}
		var numbers []int
		for _, x := range m.Trials {
			numbers = append(numbers, x.Number)
		}
		want, _ := first(lists(numbers), func(l []int) bool { return len(truths(dropped(m, l...))) > 0 })
		lengths[len(want)]++
		e := api.OK
		if len(want) > 3 {
			want, e = nil, api.ErrMany
		}
		if l, f := mark.False(m); !slices.Equal(l, want) || f != e {
			t.Fatal(m, l, f, want)
		}
	}
	for n := range 5 {
		if lengths[n] < 8 {
			t.Error(lengths)
		}
	}
}

// TestFalseOrder checks P6.5: the first of several lists, up to just 3 trials.
func TestFalseOrder(t *testing.T) {
	m := line(2, 1)
	m.Batches[1].Clean = api.KnownOpen
	m.Trials = []api.Trial{trial(3, 2, 2, true), trial(8, 2, 2, false)}
	if l, e := mark.False(m); !slices.Equal(l, []int{3}) || e != api.OK {
		t.Error(l, e)
	}
	m.Trials = append(m.Trials, trial(9, 2, 2, true))
	if l, e := mark.False(m); !slices.Equal(l, []int{8}) || e != api.OK {
		t.Error(l, e)
	}
	wrong := []api.Trial{trial(4, 1, 1, true), trial(5, 1, 2, false), trial(6, 1, 3, true), trial(7, 1, 4, true)}
	if l, e := mark.False(tried(m, wrong[:3]...)); !slices.Equal(l, []int{4, 5, 6}) || e != api.OK {
		t.Error(l, e)
	}
	if l, e := mark.False(tried(m, wrong...)); len(l) > 0 || e != api.ErrMany {
		t.Error(l, e)
	}
}
