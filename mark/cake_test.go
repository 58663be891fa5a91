package mark_test

import (
	"math/rand"
	"slices"
	"testing"

	"oilcake/api"
	"oilcake/mark"
)

// TestCakeExamples checks P6.6 and P6.7 by the chapter's examples.
func TestCakeExamples(t *testing.T) {
	m := example()
	for _, x := range []struct {
		buyer, batch int
		want         api.Span
	}{
		{70, 3, span(0, 3)}, {72, 3, span(1, 5)}, {71, 5, span(8, 8)}, {71, 3, span(1, 1)},
		{70, 2, span(0, 3)}, {72, 2, span(6, 10)}, {71, 2, span(0, 0)}, {70, 1, span(0, 0)}, {73, 2, span(0, 0)}, {1, 2, span(0, 0)}, {9999, 3, span(0, 0)},
	} {
		if s, e := mark.Has(m, x.buyer, x.batch); s != x.want || e != api.OK {
			t.Error(x, s, e)
		}
	}
	for _, x := range []struct {
		stack, batch int
		want         api.Span
	}{{1, 2, span(0, 1)}, {2, 3, span(3, 3)}, {1, 3, span(0, 1)}, {2, 5, span(0, 0)}, {2, 2, span(0, 0)}, {1, 4, span(0, 0)}} {
		if s, e := mark.Stays(m, x.stack, x.batch); s != x.want || e != api.OK {
			t.Error(x, s, e)
		}
	}
	found := example(trial(9, 5, 2, true))
	for _, x := range []struct {
		name string
		f    func(api.Marks, int) ([]int, api.Errno)
		m    api.Marks
		want []int
	}{
		{"Warn", mark.Warn, m, []int{70, 71, 72}}, {"Sure", mark.Sure, m, nil},
		{"Warn", mark.Warn, found, []int{70, 71, 72}}, {"Sure", mark.Sure, found, []int{71, 72}},
	} {
		if l, e := x.f(x.m, 1); !slices.Equal(l, x.want) || e != api.OK {
			t.Error(x.name, l, e, x.want)
		}
		if l, e := x.f(x.m, 2); len(l) > 0 || e != api.OK {
			t.Error(x.name, l, e)
		}
	}
}

// TestTop checks P6.6: of a stack that is taken from the top those cakes go that were put last, also those that lay there before others were taken.
func TestTop(t *testing.T) {
	m := line(1, 2, 3)
	m.Tops = []bool{true}
	m.Steps = []api.Step{put(1, 1, 3), put(1, 2, 2), take(1, 7, 1), put(1, 1, 1), take(1, 8, 3), put(1, 3, 4), take(1, 7, 5)}
	for _, x := range []struct{ buyer, batch, want int }{{7, 1, 1}, {7, 2, 1}, {7, 3, 4}, {8, 1, 2}, {8, 2, 1}, {8, 3, 0}} {
		if s, e := mark.Has(m, x.buyer, x.batch); s != span(x.want, x.want) || e != api.OK {
			t.Error(x, s, e)
		}
	}
	for batch, want := range []int{1, 0, 0} {
		if s, e := mark.Stays(m, 1, batch+1); s != span(want, want) || e != api.OK {
			t.Error(batch, s, e)
		}
	}
	m.Tops[0] = false
	for _, x := range []struct {
		buyer, batch int
		want         api.Span
	}{{7, 1, span(0, 3)}, {7, 2, span(0, 2)}, {7, 3, span(3, 4)}, {8, 1, span(1, 3)}, {8, 2, span(0, 2)}, {8, 3, span(0, 0)}} {
		if s, e := mark.Has(m, x.buyer, x.batch); s != x.want || e != api.OK {
			t.Error(x, s, e)
		}
	}
}

// TestStacks checks P6.6: stacks are apart, and what a buyer has of all of them counts together.
func TestStacks(t *testing.T) {
	m := line(1, 2)
	m.Tops = []bool{false, true, false}
	m.Steps = []api.Step{
		put(1, 1, 2), put(2, 1, 3), put(3, 1, 2), put(1, 2, 2), put(3, 2, 3), put(2, 2, 4),
		take(1, 5, 3), take(2, 5, 5), take(3, 6, 4), take(3, 5, 1),
	}
	for _, x := range []struct {
		buyer, batch int
		want         api.Span
	}{{5, 1, span(2, 4)}, {5, 2, span(5, 7)}, {6, 1, span(1, 2)}, {6, 2, span(2, 3)}} {
		if s, e := mark.Has(m, x.buyer, x.batch); s != x.want || e != api.OK {
			t.Error(x, s, e)
		}
	}
	for stack, want := range []api.Span{span(0, 1), span(2, 2), span(0, 0)} {
		if s, e := mark.Stays(m, stack+1, 1); s != want || e != api.OK {
			t.Error(stack, s, e)
		}
	}
}

// all are spans of numbers that were met, by what they tell of.
type all map[[2]int]api.Span

func (a all) meet(key [2]int, n int) {
	if s, is := a[key]; is {
		a[key] = span(min(s.Lo, n), max(s.Hi, n))
	} else {
		a[key] = span(n, n)
	}
}

// TestCakesAll checks P6.6, P6.7 and P6.11: of all ways in which cakes can be taken, one by one, what buyers have, what lies on stacks, who may have a bad cake, and who must; nobody else.
func TestCakesAll(t *testing.T) {
	counts := map[string]int{}
	marks(7, 1500, 6, 5, func(r *rand.Rand, m api.Marks) {
		m = stepped(r, m, 1+r.Intn(4), 4+r.Intn(7), 4)
		truths := truths(m)
		has, lies := all{}, all{}
		may, not := map[[2]int]bool{}, map[[2]int]bool{} // who has a bad cake of a mark in some truth and way, and who has not
		fates(m, func(f fate) {
			for _, id := range ids(m) {
				for _, buyer := range buyers(m) {
					has.meet([2]int{buyer, id}, f.has[[2]int{buyer, id}])
				}
				for i := range m.Tops {
					lies.meet([2]int{i + 1, id}, f.lies[[2]int{i + 1, id}])
				}
			}
			judge(m, truths, f, may, not)
		})
		for key, want := range has {
			if s, e := mark.Has(m, key[0], key[1]); s != want || e != api.OK {
				t.Fatal(m, key, s, e, want)
			}
			if want.Lo < want.Hi && want.Lo > 0 {
				counts["has"]++
			}
		}
		for key, want := range lies {
			if s, e := mark.Stays(m, key[0], key[1]); s != want || e != api.OK {
				t.Fatal(m, key, s, e, want)
			}
			if want.Lo < want.Hi && want.Lo > 0 {
				counts["stays"]++
			}
		}
		checkWarned(t, m, may, not, counts)
	})
	for _, name := range []string{"has", "stays", "warn", "sure"} {
		if counts[name] < 50 {
			t.Error(counts)
		}
	}
}

// judge notes who has a bad cake of a mark in some truth, and who has none.
func judge(m api.Marks, truths []world, f fate, may, not map[[2]int]bool) {
	for _, w := range truths {
		for number := 1; number <= 4; number++ {
			bad := w.bad(m, number)
			for _, buyer := range buyers(m) {
				key := [2]int{buyer, number}
				if slices.ContainsFunc(bad, func(id int) bool { return f.has[[2]int{buyer, id}] > 0 }) {
					may[key] = true
				} else {
					not[key] = true
				}
			}
		}
	}
}

func checkWarned(t *testing.T, m api.Marks, may, not map[[2]int]bool, counts map[string]int) {
	for number := 1; number <= 4; number++ {
		var warn, sure []int
		for _, buyer := range buyers(m) {
			key := [2]int{buyer, number}
			if may[key] {
				warn = append(warn, buyer)
			}
			if !not[key] {
				sure = append(sure, buyer)
			}
		}
		if l, e := mark.Warn(m, number); !slices.Equal(l, warn) || e != api.OK {
			t.Fatal(m, number, l, e, warn)
		}
		if l, e := mark.Sure(m, number); !slices.Equal(l, sure) || e != api.OK {
			t.Fatal(m, number, l, e, sure)
		}
		counts["warn"] += len(warn) - len(sure)
		counts["sure"] += len(sure)
	}
}

// TestSureTogether checks P6.7: who has a cake of one bad batch or of another in each way must have a bad one, though he need have none of either.
func TestSureTogether(t *testing.T) {
	m := line(2, 2, 1)
	m.Batches[2].Clean, m.Batches[2].Mark = api.KnownYes, 2
	m.Tops = []bool{false}
	m.Steps = []api.Step{put(1, 1, 4), put(1, 2, 4), put(1, 3, 4), take(1, 5, 5), take(1, 6, 4)}
	for batch := 1; batch <= 2; batch++ {
		if s, e := mark.Has(m, 5, batch); s != span(0, 4) || e != api.OK {
			t.Error(s, e)
		}
	}
	if l, e := mark.Sure(m, 1); !slices.Equal(l, []int{5}) || e != api.OK {
		t.Error(l, e)
	}
	if l, e := mark.Warn(m, 1); !slices.Equal(l, []int{5, 6}) || e != api.OK {
		t.Error(l, e)
	}
	// either 1 or 2 is pure, nobody knows which: in each truth he has a bad one only if he has one of each
	n := line(2, 3, 1, 1)
	n.Batches[0].Mark, n.Batches[1].Mark = 0, 0
	n.Batches[1].Clean = api.KnownYes
	n.Batches[2].Clean, n.Batches[2].Stone, n.Batches[2].From, n.Batches[2].Round = api.KnownYes, 2, 1, api.KnownOpen
	n.Batches[3].Clean = api.KnownOpen
	n.Tops = []bool{true, true}
	n.Steps = []api.Step{put(1, 3, 2), put(2, 4, 2), take(1, 5, 1), take(2, 6, 1), take(2, 5, 1)}
	if l, e := mark.Sure(n, 1); len(l) > 0 || e != api.OK {
		t.Error(l, e)
	}
	n.Trials = []api.Trial{trial(1, 4, 3, true)}
	if l, e := mark.Sure(n, 1); !slices.Equal(l, []int{5, 6}) || e != api.OK {
		t.Error(l, e)
	}
	n.Trials = []api.Trial{trial(1, 3, 2, true), trial(2, 4, 3, false)}
	if l, e := mark.Sure(n, 1); !slices.Equal(l, []int{5}) || e != api.OK {
		t.Error(l, e)
	}
	if l, e := mark.Warn(n, 1); !slices.Equal(l, []int{5}) || e != api.OK {
		t.Error(l, e)
	}
}

// counted is how many cakes of a batch lie on a stack where any can be taken, and are taken in some steps: for each number that can lie there the least and the greatest number taken.
func counted(m api.Marks, stack, batch int, mine func(x api.Step) bool) (lies, took api.Span) {
	can, lying := map[int]api.Span{0: {}}, 0
	for _, x := range m.Steps {
		if x.Stack != stack {
			continue
		}
		next := map[int]api.Span{}
		for n, s := range can {
			if x.Buyer == 0 {
				if x.Batch == batch {
					n += x.Cakes
				}
				next[n] = s
				continue
			}
			for k := max(0, n+x.Cakes-lying); k <= min(n, x.Cakes); k++ {
				u := s
				if mine(x) {
					u = span(s.Lo+k, s.Hi+k)
				}
				if v, is := next[n-k]; is {
					u = span(min(u.Lo, v.Lo), max(u.Hi, v.Hi))
				}
				next[n-k] = u
			}
		}
		can = next
		if lying += x.Cakes; x.Buyer != 0 {
			lying -= 2 * x.Cakes
		}
	}
	lies, took = span(1<<30, 0), span(1<<30, 0)
	for n, s := range can {
		lies = span(min(lies.Lo, n), max(lies.Hi, n))
		took = span(min(took.Lo, s.Lo), max(took.Hi, s.Hi))
	}
	return lies, took
}

// TestCakesMany checks P6.6 with as many steps as there may be, and many cakes, where any can be taken.
func TestCakesMany(t *testing.T) {
	wide := 0
	r := rand.New(rand.NewSource(8))
	for range 150 {
		m := stepped(r, random(r, 2+r.Intn(9), 8), 10, 24, 100)
		clear(m.Tops)
		for _, id := range ids(m) {
			for stack := range m.Tops {
				want, _ := counted(m, stack+1, id, func(api.Step) bool { return false })
				if s, e := mark.Stays(m, stack+1, id); s != want || e != api.OK {
					t.Fatal(m, stack+1, id, s, e, want)
				}
			}
			for _, buyer := range buyers(m) {
				var want api.Span
				for stack := range m.Tops {
					_, took := counted(m, stack+1, id, func(x api.Step) bool { return x.Buyer == buyer })
					want = span(want.Lo+took.Lo, want.Hi+took.Hi)
				}
				if s, e := mark.Has(m, buyer, id); s != want || e != api.OK {
					t.Fatal(m, buyer, id, s, e, want)
				}
				if want.Lo > 0 && want.Lo < want.Hi {
					wide++
				}
			}
		}
	}
	if wide < 100 {
		t.Error(wide)
	}
}

// TestCakesTogether checks P6.11: the cakes of a batch that was put are with buyers, or on the stacks: they lie between what is told of all of these, and what a buyer took is of all batches together.
func TestCakesTogether(t *testing.T) {
	marks(9, 300, 8, 6, func(r *rand.Rand, m api.Marks) {
		m = stepped(r, m, 8, 24, 40)
		for _, id := range ids(m) {
			puts := 0
			for _, x := range m.Steps {
				if x.Batch == id {
					puts += x.Cakes
				}
			}
			var told api.Span
			for _, buyer := range buyers(m) {
				s, _ := mark.Has(m, buyer, id)
				told = span(told.Lo+s.Lo, told.Hi+s.Hi)
			}
			for i := range m.Tops {
				s, _ := mark.Stays(m, i+1, id)
				told = span(told.Lo+s.Lo, told.Hi+s.Hi)
			}
			if told.Lo > puts || told.Hi < puts {
				t.Fatal(m, id, told, puts)
			}
		}
		for _, buyer := range buyers(m) {
			took := 0
			for _, x := range m.Steps {
				if x.Buyer == buyer {
					took += x.Cakes
				}
			}
			var told api.Span
			for _, id := range ids(m) {
				s, _ := mark.Has(m, buyer, id)
				told = span(told.Lo+s.Lo, told.Hi+s.Hi)
			}
			if told.Lo > took || told.Hi < took {
				t.Fatal(m, buyer, told, took)
			}
		}
	})
}
