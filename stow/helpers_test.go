package stow_test

import (
	"math/rand"
	"slices"

	"oilcake/api"
)

func span(lo, hi int) api.Span { return api.Span{Lo: lo, Hi: hi} }

func part(num, den int) api.Part { return api.Part{Num: num, Den: den} }

func place(hold, depth int) api.Place { return api.Place{Hold: hold, Depth: depth} }

func lot(id, mark, bags, dirty int) api.Lot {
	return api.Lot{Id: id, Mark: mark, Bags: bags, Dirty: dirty}
}

func probe(number, hold, depth, mark int) api.Probe {
	return api.Probe{Number: number, Hold: hold, Depth: depth, Mark: mark}
}

// holds are the holds 1, 2 and so on, with their rooms.
func holds(rooms ...int) []api.Hold {
	var l []api.Hold
	for i, n := range rooms {
		l = append(l, api.Hold{Id: i + 1, Room: n})
	}
	return l
}

// example is the ship of the chapter's examples, with probes behind that of these.
func example(more ...api.Probe) api.Ship {
	return api.Ship{
		Holds:  holds(10, 8),
		Lots:   []api.Lot{lot(1, 1, 4, 0), lot(2, 2, 5, 2), lot(3, 1, 3, 3)},
		Probes: append([]api.Probe{probe(1, 1, 0, 1)}, more...),
		Limit:  20,
	}
}

// terms are those of layer 1's examples.
func terms() []api.Term {
	return []api.Term{{From: 5, Pence: 100}, {From: 10, Pence: 300}, {From: 30, Pence: 1000}}
}

// with is a ship of its own memory, changed.
func with(s api.Ship, change func(s *api.Ship)) api.Ship {
	s.Holds, s.Lots, s.Probes = slices.Clone(s.Holds), slices.Clone(s.Lots), slices.Clone(s.Probes)
	change(&s)
	return s
}

// probed is a ship with these probes and no other ones.
func probed(s api.Ship, l ...api.Probe) api.Ship {
	return with(s, func(s *api.Ship) { s.Probes = l })
}

// dropped is a ship without some probes.
func dropped(s api.Ship, numbers ...int) api.Ship {
	return with(s, func(s *api.Ship) {
		s.Probes = slices.DeleteFunc(s.Probes, func(x api.Probe) bool { return slices.Contains(numbers, x.Number) })
	})
}

func same(s, t api.Ship) bool {
	return slices.Equal(s.Holds, t.Holds) && slices.Equal(s.Lots, t.Lots) && slices.Equal(s.Probes, t.Probes) && s.Limit == t.Limit
}

// stowed is holds, as all their bags from the top down; of each bag its lot.
type stowed map[int][]api.Lot

// pile lays all lots into the holds that are told of them, bag on bag.
func pile(s api.Ship, in []int) stowed {
	p := stowed{}
	for i, x := range s.Lots {
		for range x.Bags {
			p[in[i]] = slices.Insert(p[in[i]], 0, x)
		}
	}
	return p
}

// bag is the lot of which a bag lies at a place; one without a mark if nothing does.
func (p stowed) bag(at api.Place) api.Lot {
	if at.Depth < len(p[at.Hold]) {
		return p[at.Hold][at.Depth]
	}
	return api.Lot{}
}

// load is how many bags a hold has, and how many of these are dirty.
func (p stowed) load(s api.Ship, hold int) (bags, dirty int) {
	for _, x := range s.Lots {
		if slices.Contains(p[hold], x) {
			dirty += x.Dirty
		}
	}
	return len(p[hold]), dirty
}

// keeps is whether a hold is within the limit: of a hundred times as many bags.
func (p stowed) keeps(s api.Ship, hold int) bool {
	bags, dirty := p.load(s, hold)
	return bags == 0 || 100*dirty <= bags*s.Limit
}

// roomy are all choices of holds that have room, whatever was probed. The last lot changes slowest, so that they are in another order than the chapter's.
func roomy(s api.Ship) [][]int {
	all := [][]int{nil}
	for range s.Lots {
		var next [][]int
		for _, h := range s.Holds {
			for _, l := range all {
				next = append(next, append(slices.Clone(l), h.Id))
			}
		}
		all = next
	}
	return slices.DeleteFunc(all, func(l []int) bool {
		p := pile(s, l)
		return slices.ContainsFunc(s.Holds, func(h api.Hold) bool { return len(p[h.Id]) > h.Room })
	})
}

// lies are the Numbers of the probes that are not true.
func lies(s api.Ship, in []int) []int {
	var l []int
	p := pile(s, in)
	for _, x := range s.Probes {
		if p.bag(place(x.Hold, x.Depth)).Mark != x.Mark {
			l = append(l, x.Number)
		}
	}
	return l
}

// ways are all ways, in no order.
func ways(s api.Ship) [][]int {
	return slices.DeleteFunc(roomy(s), func(l []int) bool { return len(lies(s, l)) > 0 })
}

// piles are all ways, as what lies in the holds then.
func piles(s api.Ship) []stowed {
	var l []stowed
	for _, w := range ways(s) {
		l = append(l, pile(s, w))
	}
	return l
}

// places are all places of a ship, in order.
func places(s api.Ship) []api.Place {
	var l []api.Place
	for _, h := range s.Holds {
		for depth := range 36 {
			l = append(l, place(h.Id, depth))
		}
	}
	return l
}

// set is numbers in increasing order, each of them once.
func set(l []int) []int {
	l = slices.Clone(l)
	slices.Sort(l)
	return slices.Compact(l)
}

// ends are the least and the greatest number of some.
func ends(l []int) api.Span { return span(slices.Min(l), slices.Max(l)) }

// increasing are so many numbers from 1 on that increase.
func increasing(r *rand.Rand, count int) []int {
	l := make([]int, count)
	n := 0
	for i := range l {
		n += 1 + r.Intn(4)
		l[i] = n
	}
	return l
}

// random is a valid ship with so many bags at most, and with probes of which nearly all are true in one of its ways.
func random(r *rand.Rand, bags int) api.Ship {
	s := api.Ship{Limit: r.Intn(101)}
	for _, id := range increasing(r, 1+r.Intn(3)) {
		s.Holds = append(s.Holds, api.Hold{Id: id, Room: 1 + r.Intn(bags)})
	}
	left, marks := bags, 1+r.Intn(9)
	for _, id := range increasing(r, r.Intn(6)) {
		if left > 0 {
			n := 1 + r.Intn(max(1, min(left, 2*bags/5)))
			s.Lots = append(s.Lots, lot(id, 1+r.Intn(marks), n, r.Intn(n+1)))
			left -= n
		}
	}
	if all := roomy(s); len(all) > 0 {
		p := pile(s, all[r.Intn(len(all))])
		for _, n := range increasing(r, r.Intn(4)) {
			x := probe(n, s.Holds[r.Intn(len(s.Holds))].Id, r.Intn(bags), r.Intn(marks+1))
			if r.Intn(8) > 0 {
				x.Mark = p.bag(place(x.Hold, x.Depth)).Mark
			}
			s.Probes = append(s.Probes, x)
		}
	}
	return s
}

// full is a ship with as many bags and lots as there may be, and much room.
func full(r *rand.Rand) api.Ship {
	s := api.Ship{Holds: holds(36-r.Intn(8), 36-r.Intn(8), 36-r.Intn(8)), Limit: 10 + r.Intn(50)}
	left := 36
	for i := range 5 {
		n := 1 + r.Intn(min(12, left-4+i))
		if i == 4 {
			n = left
		}
		left -= n
		s.Lots = append(s.Lots, lot(i+1, 1+r.Intn(9), n, r.Intn(n+1)))
	}
	return s
}

// ships calls back with ships that have a way, and with how many bags there are at most.
func ships(seed int64, count, bags int, f func(r *rand.Rand, s api.Ship)) {
	r := rand.New(rand.NewSource(seed))
	for done := 0; done < count; {
		if s := random(r, 1+r.Intn(bags)); len(ways(s)) > 0 {
			f(r, s)
			done++
		}
	}
}
