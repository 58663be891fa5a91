package plan

import (
	"iter"

	"oilcake/api"
)

// ends yields the points behind a turn in which a sort is pressed: if it does not burst, and if it does.
func (m *mill) ends(x point, sort int) iter.Seq[point] {
	return func(yield func(point) bool) {
		if yield(m.after(x, sort, false)) && canBurst(x.Left, sort) {
			yield(m.after(x, sort, true))
		}
	}
}

// choice returns the first sort with which it stays sure, whatever bursts, and whether there is one.
func (m *mill) choice(x point, sure func(point) bool) (int, bool) {
turn:
	for sort := range sorts(x.Left) {
		for y := range m.ends(x, sort) {
			if !sure(y) {
				continue turn
			}
		}
		return sort, true
	}
	return api.SortNone, false
}

// teller returns what tells of a point whether it is sure from there on. It keeps what it told, for many ways lead to the same point.
func (m *mill) teller() func(point) bool {
	told := map[[6]int]bool{}
	var sure func(x point) bool
	sure = func(x point) bool {
		if x.isLate || x.turn == m.turns {
			return !x.isLate
		}
		is, known := told[x.key()]
		if !known {
			_, is = m.choice(x, sure)
			told[x.key()] = is
		}
		return is
	}
	return sure
}

// sure reports whether it is sure that all sales are filled.
func (m *mill) sure() bool { return m.teller()(m.now()) }

// order returns what is pressed in all turns if none bursts, and whether it is sure.
func (m *mill) order() ([]int, bool) {
	x, sure := m.now(), m.teller()
	if !sure(x) {
		return nil, false
	}
	var l []int
	for range m.turns {
		sort, _ := m.choice(x, sure)
		l = append(l, sort)
		x = m.after(x, sort, false)
	}
	return l, true
}

// fills reports whether so many sales, the first ones as they stand, are sure to be filled if they are all.
func (m *mill) fills(sales int) bool {
	p := m.Plan
	p.Sales = standing(p.Sales)[:sales]
	return work(p).sure()
}

// bears reports whether it is sure with so many bursts.
func (m *mill) bears(bursts int) bool {
	p := m.Plan
	p.Bursts = bursts
	return work(p).sure()
}

// borne returns the most bursts with which it is sure, below 0 if it is not without any.
func (m *mill) borne() int { return greatest(api.MaxBursts, m.bears) }

// saves reports whether it is sure with so much seed less than there can be.
func (m *mill) saves(lots int) bool {
	p := m.Plan
	p.Seed = api.MaxSeed - lots
	return work(p).sure()
}
