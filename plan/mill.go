package plan

import "oilcake/api"

// mill is a plan at work, and the points ahead of all turns that were done, and of the next one. By turns, with the end of the plan behind the last one, it has their days, the seed that comes since the turn before, and what all sales whose Day is over want of each sort.
type mill struct {
	api.Plan
	turns       int
	days, comes [api.MaxAll + 1]int
	wants       [api.MaxAll + 1][api.SortHot + 1]int
	points      []point
}

// work returns a plan at work, of which nothing was done.
func work(p api.Plan) *mill {
	m := &mill{Plan: p}
	for i, n := range p.Turns {
		for range n {
			m.days[m.turns] = p.From + i
			m.turns++
		}
	}
	m.days[m.turns] = p.From + len(p.Turns)
	for _, x := range p.Arrivals {
		m.comes[m.before(x.Day)] += x.Lots
	}
	for _, x := range p.Sales {
		for turn := m.over(x); turn <= m.turns; turn++ {
			m.wants[turn][x.Sort] += x.Lots
		}
	}
	m.points = []point{m.reach(point{Left: api.Left{Seed: p.Seed, Cakes: p.Cakes, Bursts: p.Bursts}})}
	return m
}

// before returns how many turns there are before a day of the plan, or before the day behind it.
func (m *mill) before(day int) int { return sum(m.Turns[:day-m.From]) }

// over returns the first turn ahead of which the Day of a sale is over.
func (m *mill) over(x api.Sale) int { return m.before(x.Day + 1) }

// reach returns a point with all that comes about ahead of its turn: the day, seed, and sales that have to be filled.
func (m *mill) reach(x point) point {
	x.Day = m.days[x.turn]
	x.Seed += m.comes[x.turn]
	want := m.wants[x.turn]
	x.isLate = x.isLate || x.Cold < want[api.SortCold] || x.Hot < want[api.SortHot]
	return x
}

// after returns the point behind a turn in which a sort that can be was pressed.
func (m *mill) after(x point, sort int, burst bool) point {
	x.turn++
	x.Left = take(x.Left, sort)
	if burst {
		x.Bursts--
	} else {
		x.Left = give(x.Left, sort)
	}
	return m.reach(x)
}

// done returns a plan at work after what was done, or its error.
func done(p api.Plan, l []api.Did) (*mill, api.Errno) {
	if e := Check(p); e != api.OK {
		return nil, e
	}
	m := work(p)
	if len(l) > m.turns {
		return nil, api.ErrDid
	}
	for _, d := range l {
		x := m.now()
		if !can(x.Left, d.Sort) || d.Burst && !canBurst(x.Left, d.Sort) {
			return nil, api.ErrDid
		}
		m.points = append(m.points, m.after(x, d.Sort, d.Burst))
	}
	return m, api.OK
}

// ahead returns a plan at work after what was done, or its error; ErrNone if no turn is left.
func ahead(p api.Plan, l []api.Did) (*mill, api.Errno) {
	m, e := done(p, l)
	if e != api.OK {
		return nil, e
	}
	return m, unless(m.now().turn < m.turns, api.ErrNone)
}

// now returns the point ahead of the next turn.
func (m *mill) now() point { return m.points[len(m.points)-1] }

// late returns the sales whose Day is over, and that were not filled.
func (m *mill) late() []int {
	var ids []int
	for _, x := range m.Sales {
		over := m.over(x)
		if over < len(m.points) && oil(m.points[over].Left, x.Sort) < wanted(m.Sales, x) {
			ids = append(ids, x.Id)
		}
	}
	return ids
}
