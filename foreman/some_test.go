package foreman_test

import (
	"math/rand"
	"slices"
	"strconv"
	"strings"

	"oilcake/api"
	"oilcake/foreman"
	"oilcake/mark"
	"oilcake/plan"
	"oilcake/press"
	"oilcake/round"
	"oilcake/stow"
	"oilcake/tank"
	"oilcake/turn"
)

// someIds are random numbers from 1 to some number, in increasing order.
func someIds(r *rand.Rand, n, most int) []int {
	l := r.Perm(most)[:n]
	for i := range l {
		l[i]++
	}
	slices.Sort(l)
	return l
}

// near is a span about a number, not below 0.
func near(r *rand.Rand, n, off int) api.Span {
	return span(max(0, n-r.Intn(off+1)), n+r.Intn(off+1))
}

// somePress is a press with a truth, about which weights were weighed.
func somePress(r *rand.Rand) api.Press {
	var p api.Press
	ids := someIds(r, 1+r.Intn(4), 6)
	in := map[int]int{} // parings
	for i, id := range ids {
		x := api.Pressing{Id: id, Day: 9 + i, Press: 1 + r.Intn(6)}
		weights := []int{0, 0, r.Intn(50), r.Intn(50), r.Intn(50), r.Intn(50), 0}
		if i+1 < len(ids) && r.Intn(2) == 0 {
			x.To, weights[api.WeighParings] = ids[i+1+r.Intn(len(ids)-i-1)], r.Intn(50)
			in[x.To] += weights[api.WeighParings]
		}
		out := 0
		for _, n := range weights {
			out += n
		}
		weights[api.WeighCake] += max(0, in[id]-out)
		weights[api.WeighSeed] = max(0, out-in[id])
		for kind := 1; kind <= 6; kind++ {
			if number := len(p.Weighings); r.Intn(3) > 0 {
				p.Weighings = append(p.Weighings, api.Weighing{Number: number + 1, Pressing: id, Kind: kind, Ounces: near(r, weights[kind], 9)})
			}
		}
		p.Pressings = append(p.Pressings, x)
	}
	return p
}

// someRoll is a roll, perhaps without a truth.
func someRoll(r *rand.Rand) api.Roll {
	x := api.Roll{Press: somePress(r), Men: someIds(r, r.Intn(5), 5)}
	for _, p := range x.Press.Pressings {
		if r.Intn(3) > 0 {
			x.Shifts = append(x.Shifts, api.Shift{Pressing: p.Id, Pence: r.Intn(200)})
		}
	}
	if len(x.Men) == 0 || len(x.Shifts) == 0 {
		return x
	}
	some := func() api.Thing {
		return thing(x.Men[r.Intn(len(x.Men))], x.Shifts[r.Intn(len(x.Shifts))].Pressing, r.Intn(2) == 0)
	}
	for _, number := range someIds(r, r.Intn(5), 8) {
		x.Notes = append(x.Notes, api.Note{Number: number, One: some(), Other: some()})
	}
	return x
}

// someLog is a log, perhaps without a truth.
func someLog(r *rand.Rand) api.Log {
	l := api.Log{Tank: api.Tank{Pints: ints(0), Leak: r.Intn(4), Foot: r.Intn(9)}}
	for range 2 + r.Intn(4) {
		l.Tank.Pints = append(l.Tank.Pints, l.Tank.Pints[len(l.Tank.Pints)-1]+1+r.Intn(40))
	}
	full, height := l.Tank.Pints[len(l.Tank.Pints)-1], 8*(len(l.Tank.Pints)-1)
	lo := r.Intn(full + 1)
	l.Start = span(lo, lo+r.Intn(full-lo+1))
	day := 0
	for range r.Intn(6) {
		day += r.Intn(3)
		x := api.Entry{Day: day, Kind: 1 + r.Intn(3)}
		if x.Kind == api.EntryDip {
			x.Size.Lo = r.Intn(height + 1)
			x.Size.Hi = x.Size.Lo + r.Intn(height-x.Size.Lo+1)
		} else {
			x.Size.Lo = r.Intn(min(full, 10) + 1)
			x.Size.Hi = min(full, x.Size.Lo+r.Intn(10))
		}
		l.Entries = append(l.Entries, x)
	}
	return l
}

// somePlan is a plan with what was done, which is perhaps not sure.
func somePlan(r *rand.Rand) (api.Plan, []api.Did) {
	p := api.Plan{From: 10, Seed: r.Intn(6), Cakes: r.Intn(3), Bursts: r.Intn(3)}
	for range 1 + r.Intn(4) {
		p.Turns = append(p.Turns, r.Intn(4))
	}
	day := func() int { return 10 + r.Intn(len(p.Turns)) }
	if r.Intn(2) == 0 {
		p.Arrivals = append(p.Arrivals, api.Arrival{Day: day(), Lots: 1 + r.Intn(3)})
	}
	for _, id := range someIds(r, r.Intn(3), 4) {
		p.Sales = append(p.Sales, api.Sale{Id: id, Sort: 1 + r.Intn(2), Lots: 1 + r.Intn(2), Day: day()})
	}
	var l []api.Did
	for range r.Intn(4) {
		did := append(slices.Clone(l), api.Did{Sort: r.Intn(3), Burst: r.Intn(4) == 0})
		if sort, e := plan.Next(p, l); e == api.OK {
			did[len(l)].Sort = sort
		}
		if _, e := plan.Play(p, did); e == api.OK {
			l = did
		}
	}
	return p, l
}

// someShip is a ship, perhaps without a way.
func someShip(r *rand.Rand) api.Ship {
	s := api.Ship{Limit: r.Intn(101)}
	for _, id := range someIds(r, 1+r.Intn(3), 4) {
		s.Holds = append(s.Holds, api.Hold{Id: id, Room: 3 + r.Intn(12)})
	}
	for _, id := range someIds(r, r.Intn(5), 6) {
		bags := 1 + r.Intn(5)
		s.Lots = append(s.Lots, api.Lot{Id: id, Mark: 1 + r.Intn(3), Bags: bags, Dirty: r.Intn(bags + 1)})
	}
	for _, number := range someIds(r, r.Intn(3), 5) {
		s.Probes = append(s.Probes, api.Probe{Number: number, Hold: s.Holds[r.Intn(len(s.Holds))].Id, Depth: r.Intn(6), Mark: r.Intn(4)})
	}
	return s
}

// someMarks are marks, perhaps without a truth.
func someMarks(r *rand.Rand) api.Marks {
	m := api.Marks{Tops: make([]bool, r.Intn(4))}
	ids := someIds(r, 1+r.Intn(5), 6)
	for i, id := range ids {
		x := api.Batch{Id: id, Kind: 1 + r.Intn(2), Stone: 1 + r.Intn(2), Clean: uint8(r.Intn(3)), Mark: r.Intn(3), Cakes: 1 + r.Intn(20)}
		if i > 0 && r.Intn(3) == 0 {
			x.From, x.Round = ids[r.Intn(i)], uint8(r.Intn(3))
		}
		m.Batches = append(m.Batches, x)
	}
	for _, number := range someIds(r, r.Intn(3), 5) {
		m.Trials = append(m.Trials, api.Trial{Number: number, Batch: ids[r.Intn(len(ids))], Kind: 1 + r.Intn(2), Found: r.Intn(2) == 0})
	}
	for i := range m.Tops {
		m.Tops[i] = r.Intn(2) == 0
		for range r.Intn(4) {
			n := m
			x := api.Step{Stack: i + 1, Cakes: 1 + r.Intn(5)}
			if r.Intn(2) == 0 {
				x.Batch = ids[r.Intn(len(ids))]
			} else {
				x.Buyer = 70 + r.Intn(3)
			}
			n.Steps = append(slices.Clone(m.Steps), x)
			if mark.Check(n) == api.OK {
				m = n
			}
		}
	}
	return m
}

// someWatch is a watch, which can perhaps not go on.
func someWatch(r *rand.Rand) api.Watch {
	w := api.Watch{Hands: r.Intn(4)}
	for _, id := range someIds(r, r.Intn(4), 5) {
		every := 1 + r.Intn(6)
		w.Ricks = append(w.Ricks, api.Rick{Id: id, Every: every, Waited: r.Intn(every)})
	}
	return w
}

func someCans(r *rand.Rand) api.Cans {
	c := api.Cans{Stock: r.Intn(601)}
	for range 1 + r.Intn(3) {
		size := 1 + r.Intn(8)
		c.Sizes, c.In = append(c.Sizes, size), append(c.In, r.Intn(size+1))
	}
	return c
}

// someWheels are wheels with a train.
func someWheels(r *rand.Rand) (api.Wheels, []api.Pair) {
	var w api.Wheels
	for range 2 + r.Intn(5) {
		w.Teeth = append(w.Teeth, 6+r.Intn(40))
	}
	l := r.Perm(len(w.Teeth))
	var train []api.Pair
	for i := 0; i+1 < len(l) && i < 2*(1+r.Intn(3)); i += 2 {
		train = append(train, api.Pair{Driver: l[i] + 1, Driven: l[i+1] + 1})
	}
	return w, train
}

// someMill is a valid mill; each part is tried again, up to so many times, until it is sound.
func someMill(r *rand.Rand, tries int) api.Mill {
	bags := 1 + r.Intn(36)
	lo := r.Intn(bags + 1)
	m := api.Mill{Cargo: api.Cargo{Bags: bags, Dirty: span(lo, lo+r.Intn(bags-lo+1))}, Cans: someCans(r)}
	m.Plan, m.Did = somePlan(r)
	m.Wheels, m.Train = someWheels(r)
	again := func(try func() bool) {
		for range tries {
			if try() {
				return
			}
		}
	}
	again(func() bool {
		m.Roll = someRoll(r)
		n, _ := turn.Count(m.Roll)
		is, _ := press.Holds(m.Roll.Press)
		return n > 0 && is
	})
	again(func() bool {
		m.Log = someLog(r)
		_, e := tank.Truth(m.Log)
		return e == api.OK
	})
	again(func() bool {
		m.Ship = someShip(r)
		n, _ := stow.Ways(m.Ship)
		return n > 0
	})
	again(func() bool {
		m.Marks = someMarks(r)
		is, _ := mark.Holds(m.Marks)
		return is
	})
	again(func() bool {
		m.Watch = someWatch(r)
		is, _ := round.Can(m.Watch)
		return is
	})
	return m
}

// said is a line of a word with numbers.
func said(word string, l ...int) string {
	for _, n := range l {
		word += " " + strconv.Itoa(n)
	}
	return word
}

// pick is one of some numbers, if there are any.
func pick(r *rand.Rand, l []int) int {
	if len(l) == 0 {
		return r.Intn(10)
	}
	return l[r.Intn(len(l))]
}

// someLine is a random line for a mill. Most often it is an order that can be done.
func someLine(r *rand.Rand, m api.Mill) string {
	n := func(lo, hi int) int {
		if r.Intn(60) == 0 {
			return []int{0, 1, 100, api.MaxFigure, api.MaxFigure + 1}[r.Intn(5)]
		}
		return lo + r.Intn(hi-lo+1)
	}
	two := func(lo, hi, off int) (int, int) {
		a := n(lo, hi)
		return a, a + n(0, off)
	}
	switch r.Intn(25) {
	case 0:
		opened := n(0, max(1, m.Cargo.Bags/4))
		return said("draw", opened, n(0, 2))
	case 1:
		lo, hi := two(0, 40, 60)
		return said("weigh", n(1, 40), n(1, 6), n(1, 6), lo, hi)
	case 2:
		return said("all", n(1, 5))
	case 3:
		lo, hi := two(0, 15, 20)
		return said("flow", n(1, 3), n(5, 16), lo, hi)
	case 4, 22:
		var l []int
		for range 1 + r.Intn(3) {
			from, to := r.Intn(len(m.Cans.Sizes)+1), r.Intn(len(m.Cans.Sizes)+1)
			l = append(l, n(from, from), n(to, to))
		}
		return said("pour", l...)
	case 5:
		return said("measure", n(0, 8))
	case 6:
		return said("sell", n(1, 9), n(1, 2), n(1, 2), n(10, 9+len(m.Plan.Turns)))
	case 7:
		return "press"
	case 8, 23:
		return said("done", n(0, 2), n(0, 3)/3)
	case 9:
		var l []int
		for range m.Plan.Turns {
			l = append(l, n(50, 100))
		}
		return said("water", append(l, n(1, 30))...)
	case 10:
		return said("probe", n(1, 20), n(1, 4), n(0, 6), n(0, 3))
	case 11:
		return said("hold", n(1, 4))
	case 12:
		return said("test", n(1, 20), n(1, 6), n(1, 2), n(0, 1))
	case 13:
		return said("put", n(1, 3), n(1, 6), n(1, 5))
	case 14:
		return said("give", n(1, 3), n(70, 75), n(1, 3))
	case 15:
		return said("warn", n(1, 4))
	case 16:
		return said("turn", someIds(r, min(m.Watch.Hands, r.Intn(4)), 5)...)
	case 17:
		return "today"
	case 18, 24:
		men, shifts := m.Roll.Men, []int{}
		for _, x := range m.Roll.Shifts {
			shifts = append(shifts, x.Pressing)
		}
		a, b := pick(r, men), pick(r, men)
		return said("note", n(1, 20), n(a, a), pick(r, shifts), n(0, 1), b, pick(r, shifts), n(0, 1))
	case 19:
		return said("pay", n(1, 5))
	case 20:
		return "wire"
	}
	return noLine(r, m)
}

// noLine is a line that is spoilt, or a file that is read.
func noLine(r *rand.Rand, m api.Mill) string {
	_, signs, e := foreman.Line(m, "wire")
	switch r.Intn(5) {
	case 0:
		return []string{"", " ", "go", "press ", " press", "draw", "draw 1", "done 1 0 0", "read", "read ", "?", "no", "well"}[r.Intn(13)]
	case 1:
		return "read " + signs
	case 2:
		_, signs, e = foreman.Line(someMill(r, 2), "wire")
		if e != api.OK {
			return "today"
		}
		return "read " + signs
	case 3:
		return "read " + signs[:r.Intn(len(signs)+1)]
	}
	return "read " + strings.Repeat("-", r.Intn(8))
}
