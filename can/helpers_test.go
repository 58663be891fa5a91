package can_test

import (
	"cmp"
	"math/rand"
	"slices"
	"testing"

	"oilcake/api"
	"oilcake/can"
)

func cans(stock int, sizes, in []int) api.Cans { return api.Cans{Sizes: sizes, In: in, Stock: stock} }

// empty are cans in which there is nothing.
func empty(stock int, sizes ...int) api.Cans { return cans(stock, sizes, make([]int, len(sizes))) }

func ints(l ...int) []int { return l }

// pours are pourings from and to, from and to.
func pours(l ...int) []api.Pouring {
	var all []api.Pouring
	for i := 0; i < len(l); i += 2 {
		all = append(all, api.Pouring{From: l[i], To: l[i+1]})
	}
	return all
}

// example are the cans of the chapter's examples.
func example() api.Cans { return empty(20, 3, 5) }

func span(lo, hi int) api.Span { return api.Span{Lo: lo, Hi: hi} }

func entry(day, kind, lo, hi int) api.Entry {
	return api.Entry{Day: day, Kind: kind, Size: span(lo, hi)}
}

// tun is the log of layer 3's examples.
func tun() api.Log {
	return api.Log{
		Tank:    api.Tank{Pints: ints(0, 10, 30, 60, 100), Leak: 2, Foot: 8},
		Start:   span(20, 40),
		Entries: []api.Entry{entry(0, 1, 10, 15), entry(3, 3, 18, 20), entry(5, 2, 10, 20), entry(5, 3, 12, 16)},
	}
}

func copied(c api.Cans) api.Cans {
	c.Sizes, c.In = slices.Clone(c.Sizes), slices.Clone(c.In)
	return c
}

func copiedLog(l api.Log) api.Log {
	l.Tank.Pints, l.Entries = slices.Clone(l.Tank.Pints), slices.Clone(l.Entries)
	return l
}

func same(a, b api.Cans) bool {
	return a.Stock == b.Stock && slices.Equal(a.Sizes, b.Sizes) && slices.Equal(a.In, b.In)
}

func sameLog(a, b api.Log) bool {
	return slices.Equal(a.Tank.Pints, b.Tank.Pints) && a.Tank.Leak == b.Tank.Leak && a.Tank.Foot == b.Tank.Foot && a.Start == b.Start && slices.Equal(a.Entries, b.Entries)
}

func sum(l []int) int {
	all := 0
	for _, n := range l {
		all += n
	}
	return all
}

// oil is all that there is, in the tank and in the cans.
func oil(c api.Cans) int { return c.Stock + sum(c.In) }

// every are all valid pourings of so many cans, in order.
func every(n int) []api.Pouring {
	var l []api.Pouring
	for from := 0; from <= n; from++ {
		for to := 0; to <= n; to++ {
			if from != to {
				l = append(l, api.Pouring{From: from, To: to})
			}
		}
	}
	return l
}

// poured are cans after a valid pouring, and whether it can be, as the chapter tells it; and what comes back into the tank.
func poured(c api.Cans, x api.Pouring) (after api.Cans, back int, is bool) {
	d := copied(c)
	switch {
	case x.From == 0:
		lacks := c.Sizes[x.To-1] - c.In[x.To-1]
		if c.Stock == 0 || lacks == 0 || c.Stock < lacks {
			return c, 0, false
		}
		d.In[x.To-1], d.Stock = c.Sizes[x.To-1], c.Stock-lacks
	case x.To == 0:
		back = c.In[x.From-1]
		if back == 0 || c.Stock+back > 600 {
			return c, 0, false
		}
		d.In[x.From-1], d.Stock = 0, c.Stock+back
	default:
		if c.In[x.From-1] == 0 || c.In[x.To-1] == c.Sizes[x.To-1] {
			return c, 0, false
		}
		for d.In[x.From-1] > 0 && d.In[x.To-1] < c.Sizes[x.To-1] {
			d.In[x.From-1]--
			d.In[x.To-1]++
		}
	}
	return d, back, true
}

// amounts is what is in the cans, for maps.
type amounts [3]int

func key(c api.Cans) amounts {
	var k amounts
	copy(k[:], c.In)
	return k
}

// way is a list of pourings that can be done, what it leads to, and what it pours back.
type way struct {
	list  []api.Pouring
	after api.Cans
	back  int
}

func comparePourings(x, y api.Pouring) int {
	return cmp.Or(cmp.Compare(x.From, y.From), cmp.Compare(x.To, y.To))
}

// better orders ways: fewer pourings first, then those with less poured back, then the first ones.
func better(x, y way) int {
	return cmp.Or(cmp.Compare(len(x.list), len(y.list)), cmp.Compare(x.back, y.back), slices.CompareFunc(x.list, y.list, comparePourings))
}

// longer are the ways with one pouring more.
func longer(w way) []way {
	var l []way
	for _, x := range every(len(w.after.Sizes)) {
		if d, back, is := poured(w.after, x); is {
			l = append(l, way{append(slices.Clone(w.list), x), d, w.back + back})
		}
	}
	return l
}

// ways are the best ways to all that can be in the cans. Each one that is bettered is gone on with again, until none is.
func ways(c api.Cans) map[amounts]way {
	best := map[amounts]way{key(c): {after: c}}
	todo := []amounts{key(c)}
	for len(todo) > 0 {
		k := todo[0]
		todo = todo[1:]
		for _, w := range longer(best[k]) {
			end := key(w.after)
			if old, known := best[end]; !known || better(w, old) < 0 {
				best[end] = w
				todo = append(todo, end)
			}
		}
	}
	return best
}

// short are the best of all ways of at most so many pourings, each one tried.
func short(c api.Cans, most int) map[amounts]way {
	best := map[amounts]way{}
	var try func(w way)
	try = func(w way) {
		end := key(w.after)
		if old, known := best[end]; !known || better(w, old) < 0 {
			best[end] = w
		}
		if len(w.list) < most {
			for _, v := range longer(w) {
				try(v)
			}
		}
	}
	try(way{after: c})
	return best
}

// pick is the best of the ways that lead to something.
func pick(all map[amounts]way, is func(c api.Cans) bool) (way, bool) {
	var best way
	some := false
	for _, w := range all {
		if is(w.after) && (!some || better(w, best) < 0) {
			best, some = w, true
		}
	}
	return best, some
}

func holdsOne(pints int) func(c api.Cans) bool {
	return func(c api.Cans) bool { return slices.Contains(c.In, pints) }
}

func holdsAll(pints int) func(c api.Cans) bool {
	return func(c api.Cans) bool { return sum(c.In) == pints }
}

func holdsEach(want []int) func(c api.Cans) bool {
	return func(c api.Cans) bool {
		for i, n := range want {
			if n >= 0 && c.In[i] != n {
				return false
			}
		}
		return true
	}
}

// wishes are all that can be wanted of cans.
func wishes(c api.Cans) [][]int {
	l := [][]int{nil}
	for _, size := range c.Sizes {
		var more [][]int
		for _, w := range l {
			for n := -1; n <= size; n++ {
				more = append(more, append(slices.Clone(w), n))
			}
		}
		l = more
	}
	return l
}

// random are valid cans. Often they are empty, or nearly so, the tank too, or there is hardly room in it for what they hold.
func random(r *rand.Rand, count, most int) api.Cans {
	c := api.Cans{Stock: r.Intn(601)}
	for range count {
		c.Sizes = append(c.Sizes, 1+r.Intn(most))
		c.In = append(c.In, 0)
	}
	if r.Intn(2) == 0 {
		for i, size := range c.Sizes {
			c.In[i] = r.Intn(size + 1)
		}
	}
	switch r.Intn(4) {
	case 0:
		c.Stock = r.Intn(sum(c.Sizes) + 1)
	case 1:
		c.Stock = 600 - r.Intn(sum(c.Sizes)+1)
	}
	return c
}

// some calls back with random cans.
func some(seed int64, times, most int, f func(r *rand.Rand, c api.Cans)) {
	r := rand.New(rand.NewSource(seed))
	for range times {
		f(r, random(r, 1+r.Intn(3), most))
	}
}

// stroll is random pourings that can be done one after the other, fewer if there are none.
func stroll(r *rand.Rand, c api.Cans, n int) []api.Pouring {
	var l []api.Pouring
	for range n {
		next := longer(way{after: c})
		if len(next) == 0 {
			break
		}
		w := next[r.Intn(len(next))]
		l, c = append(l, w.list[0]), w.after
	}
	return l
}

func play(t *testing.T, c api.Cans, l []api.Pouring) (api.Cans, int) {
	t.Helper()
	d, back, at, e := can.Play(c, l)
	if at != 0 || e != api.OK {
		t.Fatal(c, l, at, e)
	}
	return d, back
}

// asked is what Least, Total or Both tells, with what it should tell.
type asked struct {
	name  string
	is    func(c api.Cans) bool
	check func() ([]api.Pouring, int, api.Errno)
}

// questions are all that can be asked of cans; of Both only so many, if there are more.
func questions(r *rand.Rand, c api.Cans, most int) []asked {
	var l []asked
	for pints := range 21 {
		l = append(l, asked{"Least", holdsOne(pints), func() ([]api.Pouring, int, api.Errno) { return can.Least(c, pints) }})
	}
	for pints := range sum(c.Sizes) + 1 {
		l = append(l, asked{"Total", holdsAll(pints), func() ([]api.Pouring, int, api.Errno) { return can.Total(c, pints) }})
	}
	all := wishes(c)
	r.Shuffle(len(all), func(i, j int) { all[i], all[j] = all[j], all[i] })
	for _, want := range all[:min(most, len(all))] {
		l = append(l, asked{"Both", holdsEach(want), func() ([]api.Pouring, int, api.Errno) { return can.Both(c, want) }})
	}
	return l
}
