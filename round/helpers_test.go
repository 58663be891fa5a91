package round_test

import (
	"cmp"
	"fmt"
	"math/rand"
	"slices"
	"testing"

	"oilcake/api"
	"oilcake/round"
)

func rick(id, every, waited int) api.Rick { return api.Rick{Id: id, Every: every, Waited: waited} }

func heat(day, rick int) api.Heat { return api.Heat{Day: day, Rick: rick} }

func watch(hands int, l ...api.Rick) api.Watch { return api.Watch{Hands: hands, Ricks: l} }

// fresh is a watch of ricks that have waited no day, with the Ids 1, 2 and so on.
func fresh(hands int, every ...int) api.Watch {
	w := watch(hands)
	for i, n := range every {
		w.Ricks = append(w.Ricks, rick(i+1, n, 0))
	}
	return w
}

// days are lists of Ids, days' turnings.
func days(l ...[]int) [][]int { return l }

func ids(l ...int) []int { return l }

// example is the watch of the chapter's examples.
func example() api.Watch { return watch(1, rick(1, 2, 0), rick(2, 4, 1), rick(3, 4, 0)) }

// lost is the watch of the last example, which cannot go on for ever.
func lost() api.Watch { return watch(1, rick(1, 2, 0), rick(2, 4, 2), rick(3, 4, 3)) }

// with is a watch of its own memory, changed.
func with(w api.Watch, change func(w *api.Watch)) api.Watch {
	w.Ricks = slices.Clone(w.Ricks)
	change(&w)
	return w
}

func sameWatch(v, w api.Watch) bool { return v.Hands == w.Hands && slices.Equal(v.Ricks, w.Ricks) }

func sameDays(k, l [][]int) bool { return slices.EqualFunc(k, l, slices.Equal[[]int]) }

// before orders lists of Ids: shorter ones first.
func before(k, l []int) int { return cmp.Or(cmp.Compare(len(k), len(l)), slices.Compare(k, l)) }

// lists are all lists of Ids that a day can have, in their order.
func lists(w api.Watch) [][]int {
	var all [][]int
	for bits := range 1 << len(w.Ricks) {
		var l []int
		for i, x := range w.Ricks {
			if bits>>i&1 == 1 {
				l = append(l, x.Id)
			}
		}
		if len(l) <= w.Hands {
			all = append(all, l)
		}
	}
	slices.SortFunc(all, before)
	return all
}

// evening is a watch at the end of a day, and the ricks that became hot.
func evening(w api.Watch, l []int) (api.Watch, []int) {
	var hot []int
	v := with(w, func(v *api.Watch) {
		for i := range v.Ricks {
			x := &v.Ricks[i]
			if slices.Contains(l, x.Id) {
				x.Waited = 0
			} else if x.Waited++; x.Waited == x.Every {
				hot = append(hot, x.Id)
			}
		}
	})
	return v, hot
}

// nights are a watch after some days, and when which ricks became hot.
func nights(w api.Watch, l [][]int) (api.Watch, []api.Heat) {
	var all []api.Heat
	for n, ids := range l {
		v, hot := evening(w, ids)
		for _, id := range hot {
			all = append(all, api.Heat{Day: n + 1, Rick: id})
		}
		w = v
	}
	return w, all
}

// forEver is more days than any watch can be kept up that cannot go on for ever.
const forEver = 1 << 30

// keeps is for how many days a watch can be kept up at most: as long as there is anything that can be after so many days. If all that can be is the same as after fewer days, it is for ever.
func keeps(w api.Watch) int {
	now := map[string]api.Watch{fmt.Sprint(w.Ricks): w}
	seen := map[string]bool{}
	for n := 0; ; n++ {
		if len(now) == 0 {
			return n - 1
		}
		var keys []string
		for k := range now {
			keys = append(keys, k)
		}
		slices.Sort(keys)
		if text := fmt.Sprint(keys); seen[text] {
			return forEver
		} else {
			seen[text] = true
		}
		next := map[string]api.Watch{}
		for _, v := range now {
			for _, l := range lists(v) {
				if x, hot := evening(v, l); len(hot) == 0 {
					next[fmt.Sprint(x.Ricks)] = x
				}
			}
		}
		now = next
	}
}

// knower is keeps that remembers what it told.
func knower() func(w api.Watch) int {
	told := map[string]int{}
	return func(w api.Watch) int {
		key := fmt.Sprint(w)
		if n, known := told[key]; known {
			return n
		}
		told[key] = keeps(w)
		return told[key]
	}
}

// best is the first list of Ids with which no rick becomes hot, and a watch can be kept up for so many days from there.
func best(w api.Watch, n int, know func(w api.Watch) int) []int {
	for _, l := range lists(w) {
		if v, hot := evening(w, l); len(hot) == 0 && know(v) == n {
			return l
		}
	}
	panic("none")
}

// random is a valid watch.
func random(r *rand.Rand, ricks, every int) api.Watch {
	w := watch(r.Intn(4))
	id := 0
	for range ricks {
		id += 1 + r.Intn(3)
		n := 1 + r.Intn(every)
		waited := 0
		if r.Intn(3) > 0 {
			waited = r.Intn(n)
		}
		w.Ricks = append(w.Ricks, rick(id, n, waited))
	}
	return w
}

// small calls back with watches of which all that can be is gone through.
func small(seed int64, count int, f func(r *rand.Rand, w api.Watch)) {
	r := rand.New(rand.NewSource(seed))
	for range count {
		f(r, random(r, r.Intn(5), 4))
	}
}

// tight are watches in which what is asked for is about what the hands can do.
func tight(seed int64, count int, f func(r *rand.Rand, w api.Watch)) {
	r := rand.New(rand.NewSource(seed))
	for count > 0 {
		w := random(r, 2+r.Intn(3), 6)
		share := 0
		for _, x := range w.Ricks {
			share += 60 / x.Every
		}
		if w.Hands = (share + 59) / 60; w.Hands <= 3 {
			f(r, w)
			count--
		}
	}
}

// some are random days of a watch.
func some(r *rand.Rand, w api.Watch, n int) [][]int {
	all := lists(w)
	var l [][]int
	for range n {
		l = append(l, all[r.Intn(len(all))])
	}
	return l
}

// careful are random days of a watch on which ricks are turned that have to be, if there are hands.
func careful(r *rand.Rand, w api.Watch, n int) [][]int {
	var l [][]int
	for range n {
		var fine [][]int
		for _, x := range lists(w) {
			if _, hot := evening(w, x); len(hot) == 0 {
				fine = append(fine, x)
			}
		}
		if len(fine) == 0 {
			fine = lists(w)
		}
		x := fine[r.Intn(len(fine))]
		w, _ = evening(w, x)
		l = append(l, x)
	}
	return l
}

func can(t *testing.T, w api.Watch) bool {
	t.Helper()
	is, e := round.Can(w)
	if e != api.OK {
		t.Fatal(w, e)
	}
	return is
}
