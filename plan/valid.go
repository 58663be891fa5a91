package plan

import (
	"slices"

	"oilcake/api"
)

// within reports whether all of some numbers are in a span.
func within(s api.Span, l ...int) bool {
	for _, n := range l {
		if n < s.Lo || n > s.Hi {
			return false
		}
	}
	return true
}

// unless returns an error unless something is so.
func unless(so bool, e api.Errno) api.Errno {
	if so {
		return api.OK
	}
	return e
}

// firstError returns the first of some codes that is an error, otherwise OK.
func firstError(l ...api.Errno) api.Errno {
	for _, e := range l {
		if e != api.OK {
			return e
		}
	}
	return api.OK
}

// question is something that is so of a plan that is valid.
type question struct {
	so func(p api.Plan) bool
}

// questions returns what a plan is asked. Those that need its days come behind the one that sees to them.
func questions() [5]question {
	return [5]question{{fewDays}, {fewTurns}, {inStock}, {arrivalsFit}, {salesFit}}
}

func fewDays(p api.Plan) bool {
	return within(api.Span{Lo: 1, Hi: api.MaxPlanned}, len(p.Turns)) && within(api.Span{Hi: api.MaxDay - len(p.Turns) + 1}, p.From)
}

func fewTurns(p api.Plan) bool {
	return within(api.Span{Hi: api.MaxTurns}, p.Turns...) && sum(p.Turns) <= api.MaxAll
}

func inStock(p api.Plan) bool {
	return within(api.Span{Hi: api.MaxSeed}, p.Seed, p.Cakes) && within(api.Span{Hi: api.MaxBursts}, p.Bursts)
}

func arrivalsFit(p api.Plan) bool {
	wrong := func(x api.Arrival) bool { return !isDay(p, x.Day) || !within(api.Span{Lo: 1, Hi: api.MaxSeed}, x.Lots) }
	return len(p.Arrivals) <= api.MaxArrivals && !slices.ContainsFunc(p.Arrivals, wrong) &&
		inOrder(p.Arrivals, func(x, y api.Arrival) bool { return x.Day <= y.Day })
}

func salesFit(p api.Plan) bool {
	wrong := func(x api.Sale) bool {
		return !within(api.Span{Lo: 1, Hi: api.MaxId}, x.Id) || !within(api.Span{Lo: api.SortCold, Hi: api.SortHot}, x.Sort) ||
			!within(api.Span{Lo: 1, Hi: api.MaxLots}, x.Lots) || !isDay(p, x.Day)
	}
	return len(p.Sales) <= api.MaxSales && !slices.ContainsFunc(p.Sales, wrong) &&
		inOrder(p.Sales, func(x, y api.Sale) bool { return x.Id < y.Id })
}

// inOrder reports whether each thing of a list may follow the one before it.
func inOrder[T any](l []T, may func(x, y T) bool) bool {
	for i := 1; i < len(l); i++ {
		if !may(l[i-1], l[i]) {
			return false
		}
	}
	return true
}

func sum(l []int) int {
	all := 0
	for _, n := range l {
		all += n
	}
	return all
}

// isDay reports whether a day is one of a plan, checkDay returns the error of one that is not.
func isDay(p api.Plan, day int) bool {
	return within(api.Span{Lo: p.From, Hi: p.From + len(p.Turns) - 1}, day)
}

func checkDay(p api.Plan, day int) api.Errno { return unless(isDay(p, day), api.ErrArg) }

// valid returns a plan, or an error unless it is valid.
func valid(p api.Plan, e api.Errno) (api.Plan, api.Errno) {
	if Check(p) != api.OK {
		return api.Plan{}, e
	}
	return p, api.OK
}

// copied returns a plan of its own memory.
func copied(p api.Plan) api.Plan {
	p.Turns, p.Arrivals, p.Sales = slices.Clone(p.Turns), slices.Clone(p.Arrivals), slices.Clone(p.Sales)
	return p
}

// longer returns a plan with so many turns more on a day.
func longer(p api.Plan, day, more int) api.Plan {
	q := copied(p)
	q.Turns[day-p.From] += more
	return q
}
