package plan_test

import (
	"cmp"
	"math/rand"
	"slices"

	"oilcake/api"
)

const (
	none = api.SortNone
	cold = api.SortCold
	hot  = api.SortHot
)

func span(lo, hi int) api.Span { return api.Span{Lo: lo, Hi: hi} }

func sale(id, sort, lots, day int) api.Sale {
	return api.Sale{Id: id, Sort: sort, Lots: lots, Day: day}
}

func arrival(day, lots int) api.Arrival { return api.Arrival{Day: day, Lots: lots} }

// plain is what was done if nothing burst.
func plain(sorts ...int) []api.Did {
	var l []api.Did
	for _, s := range sorts {
		l = append(l, api.Did{Sort: s})
	}
	return l
}

func burst(sort int) api.Did { return api.Did{Sort: sort, Burst: true} }

// example is the plan of the chapter's examples.
func example() api.Plan {
	return api.Plan{From: 10, Turns: []int{2, 2, 1}, Seed: 3, Arrivals: []api.Arrival{arrival(11, 2)}, Sales: []api.Sale{sale(1, cold, 2, 11), sale(2, hot, 1, 12)}, Bursts: 1}
}

// with is a plan of its own memory, changed.
func with(p api.Plan, change func(p *api.Plan)) api.Plan {
	p.Turns, p.Arrivals, p.Sales = slices.Clone(p.Turns), slices.Clone(p.Arrivals), slices.Clone(p.Sales)
	change(&p)
	return p
}

func bursts(p api.Plan, n int) api.Plan { return with(p, func(p *api.Plan) { p.Bursts = n }) }

func same(p, q api.Plan) bool {
	return p.From == q.From && slices.Equal(p.Turns, q.Turns) && p.Seed == q.Seed && p.Cakes == q.Cakes && slices.Equal(p.Arrivals, q.Arrivals) && slices.Equal(p.Sales, q.Sales) && p.Bursts == q.Bursts
}

// pressed is the press of the examples of layer 2, with its pressings on other days.
func pressed(days ...int) api.Press {
	var p api.Press
	for i, to := range []int{3, 3, 0} {
		p.Pressings = append(p.Pressings, api.Pressing{Id: i + 1, Day: days[i], Press: 1, To: to})
	}
	for i, s := range []api.Span{
		span(1000, 1000), span(290, 310), span(500, 520), span(40, 50), span(30, 60),
		span(600, 600), span(170, 180), span(300, 310), span(20, 30), span(20, 40),
		span(0, 0), span(30, 40), span(70, 90), span(5, 10), span(0, 10),
	} {
		p.Weighings = append(p.Weighings, api.Weighing{Number: i + 1, Pressing: i/5 + 1, Kind: i%5 + 1, Ounces: s})
	}
	return p
}

// oiled is a press of which so many ounces of oil were weighed, at pressings on days.
func oiled(ounces api.Span, days ...int) api.Press {
	var p api.Press
	for i, day := range days {
		p.Pressings = append(p.Pressings, api.Pressing{Id: i + 1, Day: day, Press: 1})
	}
	p.Weighings = []api.Weighing{{Number: 1, Pressing: 1, Kind: api.WeighOil, Ounces: ounces}}
	return p
}

func all(l []int) int {
	n := 0
	for _, x := range l {
		n += x
	}
	return n
}

// standing are the sales by their Days, of one Day by their Ids.
func standing(p api.Plan) []api.Sale {
	l := slices.Clone(p.Sales)
	slices.SortFunc(l, func(x, y api.Sale) int { return cmp.Compare(x.Day*100000+x.Id, y.Day*100000+y.Id) })
	return l
}

// story is what came about by what was done: what is left then, the sales that are late, and of all turns what was there ahead of each.
type story struct {
	left  api.Left
	late  []int
	ahead []api.Left
}

// tell goes through all days of a plan; not ok if something cannot be.
func tell(p api.Plan, l []api.Did) (s story, ok bool) {
	s.left = api.Left{Seed: p.Seed, Cakes: p.Cakes, Bursts: p.Bursts}
	x := &s.left
	at := 0
	for i, turns := range p.Turns {
		x.Day = p.From + i
		for _, a := range p.Arrivals {
			if a.Day == x.Day {
				x.Seed += a.Lots
			}
		}
		for range turns {
			if at == len(l) {
				slices.Sort(s.late)
				return s, true
			}
			s.ahead = append(s.ahead, *x)
			if !turn(x, l[at]) {
				return s, false
			}
			at++
		}
		s.late = append(s.late, unfilled(p, *x)...)
	}
	x.Day++
	slices.Sort(s.late)
	return s, at == len(l)
}

// turn is what is done in one turn; false if it cannot be.
func turn(x *api.Left, d api.Did) bool {
	if d.Burst {
		x.Bursts--
	}
	switch d.Sort {
	case none:
		return !d.Burst
	case cold:
		x.Seed--
		if !d.Burst {
			x.Cold, x.Cakes = x.Cold+1, x.Cakes+1
		}
	case hot:
		x.Cakes--
		if !d.Burst {
			x.Hot++
		}
	default:
		return false
	}
	return x.Seed >= 0 && x.Cakes >= 0 && x.Bursts >= 0
}

// unfilled are the sales of a day that are not filled at its end.
func unfilled(p api.Plan, x api.Left) []int {
	var late []int
	wanted := map[int]int{}
	for _, y := range standing(p) {
		wanted[y.Sort] += y.Lots
		has := map[int]int{cold: x.Cold, hot: x.Hot}[y.Sort]
		if y.Day == x.Day && has < wanted[y.Sort] {
			late = append(late, y.Id)
		}
	}
	return late
}

// then is what was done, with one turn more.
func then(l []api.Did, sort int, bursts bool) []api.Did {
	return append(slices.Clone(l), api.Did{Sort: sort, Burst: bursts})
}

// choices are the sorts that can be pressed after what was done.
func choices(p api.Plan, l []api.Did) []int {
	var sorts []int
	for _, s := range []int{cold, hot, none} {
		if _, ok := tell(p, then(l, s, false)); ok {
			sorts = append(sorts, s)
		}
	}
	return sorts
}

// isSure is whether it is sure, as the chapter says it: all that can be pressed is tried, and all that can burst.
func isSure(p api.Plan, l []api.Did) bool {
	s, _ := tell(p, l)
	if len(s.late) > 0 || len(l) == all(p.Turns) {
		return len(s.late) == 0
	}
	return slices.ContainsFunc(choices(p, l), func(sort int) bool { return staysSure(p, l, sort) })
}

// staysSure is whether it stays sure, whether a sort bursts or not.
func staysSure(p api.Plan, l []api.Did, sort int) bool {
	for _, b := range []bool{false, true} {
		if _, ok := tell(p, then(l, sort, b)); ok && !isSure(p, then(l, sort, b)) {
			return false
		}
	}
	return true
}

// isSureOf is whether it is sure, of a plan of any size, turn by turn from the end: of each turn by all oil of both sorts, and all that can have burst of both.
func isSureOf(p api.Plan) bool {
	turns := all(p.Turns)
	type spot struct{ cold, hot, lostCold, lostHot int }
	var sure map[spot]bool
	for at := turns; at >= 0; at-- {
		day, first := 0, 0 // the day of the turn
		for day < len(p.Turns) && first+p.Turns[day] <= at {
			first += p.Turns[day]
			day++
		}
		seed := p.Seed
		for _, a := range p.Arrivals {
			if a.Day-p.From <= day {
				seed += a.Lots
			}
		}
		wants := [3]int{}
		for _, x := range p.Sales {
			if x.Day-p.From < day {
				wants[x.Sort] += x.Lots
			}
		}
		now := map[spot]bool{}
		for c := wants[cold]; c <= at; c++ {
			for h := wants[hot]; h+c <= at; h++ {
				for lost := range min(p.Bursts, at-c-h) + 1 {
					for lostHot := range lost + 1 {
						x := spot{c, h, lost - lostHot, lostHot}
						is := at == turns || sure[x]
						if seed-c-x.lostCold > 0 {
							is = is || sure[spot{c + 1, h, x.lostCold, lostHot}] && (lost == p.Bursts || sure[spot{c, h, x.lostCold + 1, lostHot}])
						}
						if p.Cakes+c-h-lostHot > 0 {
							is = is || sure[spot{c, h + 1, x.lostCold, lostHot}] && (lost == p.Bursts || sure[spot{c, h, x.lostCold, lostHot + 1}])
						}
						now[x] = is
					}
				}
			}
		}
		sure = now
	}
	return sure[spot{}]
}

// random is a valid plan with so many turns at most. What is wanted is about what can be pressed.
func random(r *rand.Rand, turns int) api.Plan {
	p := api.Plan{From: r.Intn(5), Seed: r.Intn(turns + 1), Cakes: max(0, r.Intn(6)-2), Bursts: min(4, r.Intn(turns/4+2))}
	for len(p.Turns) == 0 || len(p.Turns) < 12 && all(p.Turns) < turns && r.Intn(8) > 0 {
		p.Turns = append(p.Turns, r.Intn(min(4, turns-all(p.Turns))+1))
	}
	days := make([]int, r.Intn(3))
	for i := range days {
		days[i] = p.From + r.Intn(len(p.Turns))
	}
	slices.Sort(days)
	for _, day := range days {
		p.Arrivals = append(p.Arrivals, arrival(day, r.Intn(3)+1))
	}
	left := max(0, all(p.Turns)-p.Bursts-r.Intn(3)+1)
	id := 0
	for left > 0 && len(p.Sales) < 8 && r.Intn(6) > 0 {
		x := sale(id+r.Intn(3)+1, r.Intn(2)+1, r.Intn(min(left, 3))+1, p.From+max(r.Intn(len(p.Turns)), r.Intn(len(p.Turns)), r.Intn(len(p.Turns))))
		p.Sales = append(p.Sales, x)
		id = x.Id
		left -= x.Lots
	}
	return p
}

// small calls back with plans of which all that can come about is tried.
func small(seed int64, count int, f func(r *rand.Rand, p api.Plan)) {
	r := rand.New(rand.NewSource(seed))
	for range count {
		f(r, random(r, 2+r.Intn(4)))
	}
}

// great calls back with plans of any size.
func great(seed int64, count int, f func(r *rand.Rand, p api.Plan)) {
	r := rand.New(rand.NewSource(seed))
	for range count {
		f(r, random(r, 6+r.Intn(19)))
	}
}

// stories calls back with all that can have been done, from nothing on.
func stories(p api.Plan, f func(l []api.Did)) {
	var next func(l []api.Did)
	next = func(l []api.Did) {
		f(l)
		for _, s := range []int{none, cold, hot} {
			for _, b := range []bool{false, true} {
				if _, ok := tell(p, then(l, s, b)); ok {
					next(then(l, s, b))
				}
			}
		}
	}
	next(nil)
}
