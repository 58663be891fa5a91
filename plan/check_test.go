package plan_test

import (
	"fmt"
	"math"
	"math/rand"
	"reflect"
	"slices"
	"testing"

	"oilcake/api"
	"oilcake/plan"
)

// args are the arguments of all functions.
type args struct {
	p             api.Plan
	l             []api.Did
	sort, day, id int
	sale          api.Sale
	arrival       api.Arrival
	q             api.Press
}

// fine are arguments with which no function returns an error, but those that are asked of what is not sure.
func fine() args {
	return args{p: example(), l: []api.Did{burst(cold), {Sort: cold}}, sort: cold, day: 11, id: 2, sale: sale(7, hot, 1, 12), arrival: arrival(11, 5), q: pressed(9, 10, 12)}
}

// unsure are arguments of a plan that is not sure.
func unsure() args {
	a := fine()
	a.p.Bursts, a.l = 2, plain(cold)
	return a
}

// fault is an error, and all that is done to arguments to lead to it.
type fault struct {
	e  api.Errno
	by []func(a *args)
}

// far are numbers that nothing allows.
func far() []int {
	return []int{-1, -2, math.MinInt, math.MinInt + 1, math.MaxInt, math.MaxInt - 1, math.MinInt32, math.MaxInt32, math.MaxUint32 + 1, math.MinInt / 2, math.MaxInt/2 + 1}
}

// each are changes of arguments by numbers that nothing allows, and by some more.
func each(set func(a *args, n int), more ...int) []func(a *args) {
	var by []func(a *args)
	for _, n := range append(far(), more...) {
		by = append(by, func(a *args) { set(a, n) })
	}
	return by
}

func badPlan() fault {
	return fault{api.ErrPlan, slices.Concat(
		each(func(a *args, n int) { a.p.From = n }, 9, 12, 3651),
		each(func(a *args, n int) { a.p = api.Plan{From: n, Turns: []int{1, 1, 1}} }, 3651, 3652),
		each(func(a *args, n int) { a.p.Turns[1] = n }, 5),
		each(func(a *args, n int) { a.p.Seed = n }, 31),
		each(func(a *args, n int) { a.p.Cakes = n }, 31),
		each(func(a *args, n int) { a.p.Bursts = n }, 5),
		each(func(a *args, n int) { a.p.Arrivals[0].Day = n }, 0, 9, 13),
		each(func(a *args, n int) { a.p.Arrivals[0].Lots = n }, 0, 31),
		each(func(a *args, n int) { a.p.Sales[0].Id = n }, 0, 2, 3, 10000),
		each(func(a *args, n int) { a.p.Sales[1].Id = n }, 0, 1, 10000),
		each(func(a *args, n int) { a.p.Sales[1].Sort = n }, 0, 3),
		each(func(a *args, n int) { a.p.Sales[1].Lots = n }, 0, 7),
		each(func(a *args, n int) { a.p.Sales[1].Day = n }, 0, 9, 13),
		[]func(a *args){
			func(a *args) { a.p = api.Plan{} },
			func(a *args) { a.p.Turns = nil },
			func(a *args) { a.p.Turns = make([]int, 13) },
			func(a *args) { a.p.Turns = make([]int, 100000) },
			func(a *args) { a.p.Turns = slices.Repeat([]int{4}, 7) },
			func(a *args) { a.p.Turns = []int{4, 4, 4, 4, 4, 4, 1} },
			func(a *args) { a.p.Arrivals = slices.Repeat(a.p.Arrivals, 7) },
			func(a *args) { a.p.Arrivals = slices.Repeat(a.p.Arrivals, 100000) },
			func(a *args) { a.p.Arrivals = []api.Arrival{arrival(11, 1), arrival(10, 1)} },
			func(a *args) { a.p.Sales = many(9) },
			func(a *args) { a.p.Sales = many(100000) },
			func(a *args) { slices.Reverse(a.p.Sales) },
		},
	)}
}

// many are so many sales with the Ids 21, 22 and so on.
func many(n int) []api.Sale {
	var l []api.Sale
	for i := range n {
		l = append(l, sale(21+i, i%2+1, 1, 12))
	}
	return l
}

func badDid() fault {
	return fault{api.ErrDid, slices.Concat(
		each(func(a *args, n int) { a.l = plain(n) }, 3),
		each(func(a *args, n int) { a.l = plain(cold, none, n) }, 3),
		each(func(a *args, n int) { a.l = []api.Did{burst(n)} }, 0, 2, 3),
		[]func(a *args){
			func(a *args) { a.l = plain(hot) },
			func(a *args) { a.l = plain(cold, hot, hot) },
			func(a *args) { a.l = []api.Did{burst(cold), {Sort: hot}} },
			func(a *args) { a.l = []api.Did{burst(none)} },
			func(a *args) { a.l = []api.Did{burst(cold), burst(cold), burst(cold)} },
			func(a *args) { a.l = plain(none, none, none, none, none, none) },
			func(a *args) { a.l = make([]api.Did, 100000) },
			func(a *args) { a.p.Seed, a.l = 1, plain(cold, cold) },
			func(a *args) { a.p.Arrivals[0].Day, a.l = 12, plain(cold, cold, cold, cold) },
		},
	)}
}

func noTurn() fault {
	return fault{api.ErrNone, []func(a *args){
		func(a *args) { a.l = plain(none, none, none, none, none) },
		func(a *args) { a.l = plain(cold, cold, cold, hot, cold) },
		func(a *args) { a.p.Turns, a.l = []int{0, 0, 0}, nil },
	}}
}

// tooMuch is the fault of sales that are too many for the turns, however little bursts.
func tooMuch() fault {
	return fault{api.ErrLate, []func(a *args){
		func(a *args) { a.p.Sales[0].Lots = 6 },
		func(a *args) { a.p.Sales[1].Lots = 5 },
		func(a *args) { a.p.Sales[1].Day = 10; a.p.Sales[1].Lots = 3 },
	}}
}

// risky is the fault of a plan that is sure without bursts only; done what makes it unsure.
func risky() fault {
	return fault{api.ErrLate, append(tooMuch().by, func(a *args) { a.p.Bursts, a.l = 2, nil }, func(a *args) { a.p.Bursts, a.l = 4, plain(cold) })}
}

// isSureNow is the fault of a plan that is sure where one is asked for that is not.
func isSureNow(e api.Errno) fault {
	return fault{e, []func(a *args){func(a *args) { a.p.Bursts = 1 }, func(a *args) { a.p.Sales = nil }}}
}

func badSort() fault {
	return fault{api.ErrArg, append(each(func(a *args, n int) { a.sort = n }, 3),
		func(a *args) { a.l, a.sort = nil, hot },
		func(a *args) { a.p.Seed, a.l, a.sort = 1, plain(cold), cold })}
}

func badDay() fault {
	return fault{api.ErrArg, each(func(a *args, n int) { a.day = n }, 0, 9, 22, 3652)}
}

// noRoom is the fault of turns that are as many as there may be.
func noRoom() fault {
	return fault{api.ErrFull, []func(a *args){
		func(a *args) { a.p.Turns[1] = 4 },
		func(a *args) { a.p.Turns = []int{4, 3, 4, 4, 4, 4, 1} },
		func(a *args) { a.p.Turns = []int{0, 0, 4, 4, 4, 4, 4, 4} },
	}}
}

func fullSales() fault {
	return fault{api.ErrFull, []func(a *args){func(a *args) { a.p.Sales = many(8) }}}
}

func fullArrivals() fault {
	return fault{api.ErrFull, []func(a *args){func(a *args) { a.p.Arrivals = slices.Repeat(a.p.Arrivals, 6) }}}
}

func badSale() fault {
	return fault{api.ErrSale, slices.Concat(
		each(func(a *args, n int) { a.sale.Id = n }, 0, 1, 2, 10000),
		each(func(a *args, n int) { a.sale.Sort = n }, 0, 3),
		each(func(a *args, n int) { a.sale.Lots = n }, 0, 7),
		each(func(a *args, n int) { a.sale.Day = n }, 0, 9, 13),
	)}
}

func badArrival() fault {
	return fault{api.ErrArrival, slices.Concat(
		each(func(a *args, n int) { a.arrival.Day = n }, 0, 9, 13),
		each(func(a *args, n int) { a.arrival.Lots = n }, 0, 31),
	)}
}

func noSale() fault {
	return fault{api.ErrNone, each(func(a *args, n int) { a.id = n }, 0, 3, 10000)}
}

func badPress() fault {
	return fault{api.ErrPress, slices.Concat(
		each(func(a *args, n int) { a.q.Pressings[2].Day = n }, 3653),
		each(func(a *args, n int) { a.q.Pressings[0].Id = n }, 0, 2),
		each(func(a *args, n int) { a.q.Weighings[0].Kind = n }, 0, 7),
		each(func(a *args, n int) { a.q.Pressings = make([]api.Pressing, 100) }),
	)}
}

// noTurns is the fault of a day that has fewer turns than pressings.
func noTurns() fault {
	return fault{api.ErrFull, []func(a *args){
		func(a *args) { a.q = pressed(10, 10, 10) },
		func(a *args) { a.q = pressed(12, 12, 12) },
		func(a *args) { a.q = pressed(10, 12, 12) },
	}}
}

func noTruth() fault {
	return fault{api.ErrBad, []func(a *args){
		func(a *args) { a.q.Weighings[12].Ounces = span(10, 20) },
		func(a *args) { a.q.Weighings[12].Kind = api.WeighParings },
	}}
}

// call is a function with the faults that it names, in their order, and arguments with which it returns no error.
type call struct {
	name   string
	run    func(a args) ([]any, api.Errno)
	faults []fault
	start  func() args
}

func one[T any](x T, e api.Errno) ([]any, api.Errno) { return []any{x}, e }

func calls() []call {
	return []call{
		{"Check", func(a args) ([]any, api.Errno) { return nil, plan.Check(a.p) }, []fault{badPlan()}, fine},
		{"Play", func(a args) ([]any, api.Errno) { return one(plan.Play(a.p, a.l)) }, []fault{badPlan(), badDid()}, fine},
		{"Late", func(a args) ([]any, api.Errno) { return one(plan.Late(a.p, a.l)) }, []fault{badPlan(), badDid()}, fine},
		{"Sure", func(a args) ([]any, api.Errno) { return one(plan.Sure(a.p, a.l)) }, []fault{badPlan(), badDid()}, fine},
		{"Next", func(a args) ([]any, api.Errno) { return one(plan.Next(a.p, a.l)) }, []fault{badPlan(), badDid(), noTurn(), risky()}, fine},
		{"Worst", func(a args) ([]any, api.Errno) { return one(plan.Worst(a.p, a.l, a.sort)) }, []fault{badPlan(), badDid(), noTurn(), badSort(), isSureNow(api.ErrLate)}, unsure},
		{"Order", func(a args) ([]any, api.Errno) { return one(plan.Order(a.p)) }, []fault{badPlan(), risky()}, fine},
		{"Lost", func(a args) ([]any, api.Errno) { return one(plan.Lost(a.p)) }, []fault{badPlan(), isSureNow(api.ErrNone)}, unsure},
		{"Borne", func(a args) ([]any, api.Errno) { return one(plan.Borne(a.p)) }, []fault{badPlan(), tooMuch()}, fine},
		{"Least", func(a args) ([]any, api.Errno) { return one(plan.Least(a.p)) }, []fault{badPlan(), risky()}, fine},
		{"Spare", func(a args) ([]any, api.Errno) { return one(plan.Spare(a.p, a.day)) }, []fault{badPlan(), badDay(), risky()}, fine},
		{"Gains", func(a args) ([]any, api.Errno) { return one(plan.Gains(a.p, a.day)) }, []fault{badPlan(), badDay(), noRoom(), tooMuch()}, fine},
		{"Sell", func(a args) ([]any, api.Errno) { return one(plan.Sell(a.p, a.sale)) }, []fault{badPlan(), fullSales(), badSale()}, fine},
		{"Refuse", func(a args) ([]any, api.Errno) { return one(plan.Refuse(a.p, a.id)) }, []fault{badPlan(), noSale()}, fine},
		{"Land", func(a args) ([]any, api.Errno) { return one(plan.Land(a.p, a.arrival)) }, []fault{badPlan(), fullArrivals(), badArrival()}, fine},
		{"Taken", func(a args) ([]any, api.Errno) { return one(plan.Taken(a.p, a.q)) }, []fault{badPlan(), badPress(), noTurns()}, fine},
		{"Had", func(a args) ([]any, api.Errno) { return one(plan.Had(a.p, a.q)) }, []fault{badPlan(), badPress(), noTruth()}, fine},
	}
}

func zero(l []any) bool {
	for _, x := range l {
		v := reflect.ValueOf(x)
		if !v.IsZero() && !(v.Kind() == reflect.Slice && v.Len() == 0) {
			return false
		}
	}
	return true
}

// spoilt are the arguments of a call with a fault, and with some of those behind it. These come first: what is checked first counts.
func spoilt(f call, i, k, more int) args {
	a := f.start()
	for j := len(f.faults) - 1; j > i; j-- {
		if more>>(j-i-1)&1 == 1 {
			behind := f.faults[j].by
			behind[k%len(behind)](&a)
		}
	}
	switch f.faults[i].e {
	case api.ErrPlan, api.ErrDid: // a plan that was spoilt behind can have nothing more to spoil
		a.p = f.start().p
	case api.ErrPress:
		a.q = f.start().q
	}
	f.faults[i].by[k](&a)
	return a
}

// TestErrors checks P4.1 and P1 (R1, R2, R5, R6, R7), and the errors of P4.3 to P4.8: each fault leads to its error, whatever other faults come behind it, and all results are zero values then.
func TestErrors(t *testing.T) {
	for _, f := range calls() {
		if _, e := f.run(f.start()); e != api.OK {
			t.Errorf("%s: %d without a fault", f.name, e)
		}
		for i, x := range f.faults {
			for k := range x.by {
				for more := range 1 << (len(f.faults) - i - 1) {
					a := spoilt(f, i, k, more)
					if l, e := f.run(a); e != x.e || !zero(l) {
						t.Errorf("%s, fault %d.%d (%b): %d, want %d, results %v of %v", f.name, i, k, more, e, x.e, l, a)
					}
				}
			}
		}
	}
}

// TestPlanValid checks P4.1 and R6: plans at the ends of what is allowed are valid, those behind them not.
func TestPlanValid(t *testing.T) {
	for _, p := range []api.Plan{
		example(),
		{Turns: []int{0}},
		{From: 3652, Turns: []int{4}, Seed: 30, Cakes: 30, Bursts: 4},
		{From: 3641, Turns: make([]int, 12), Arrivals: []api.Arrival{arrival(3641, 1), arrival(3652, 30)}, Sales: []api.Sale{sale(1, cold, 1, 3641), sale(9999, hot, 6, 3652)}},
		{Turns: []int{4, 4, 4, 4, 4, 4, 0}, Arrivals: slices.Repeat([]api.Arrival{arrival(3, 30)}, 6)},
		with(example(), func(p *api.Plan) { p.Sales = many(8) }),
		with(example(), func(p *api.Plan) { p.Sales[0].Day, p.Sales[1].Day = 12, 10 }),
	} {
		if e := plan.Check(p); e != api.OK {
			t.Error(p, e)
		}
	}
	for _, p := range []api.Plan{
		{}, {Turns: []int{}}, {Turns: make([]int, 13)}, {Turns: []int{5}}, {Turns: []int{-1}}, {Turns: []int{4, 4, 4, 4, 4, 4, 1}},
		{From: -1, Turns: []int{0}}, {From: 3653, Turns: []int{0}}, {From: 3652, Turns: []int{0, 0}}, {From: 3642, Turns: make([]int, 12)},
		{Turns: []int{0}, Seed: 31}, {Turns: []int{0}, Cakes: 31}, {Turns: []int{0}, Bursts: 5}, {Turns: []int{0}, Seed: -1}, {Turns: []int{0}, Cakes: -1}, {Turns: []int{0}, Bursts: -1},
		{Turns: []int{0}, Arrivals: slices.Repeat([]api.Arrival{arrival(0, 1)}, 7)}, {Turns: []int{0}, Arrivals: []api.Arrival{arrival(1, 1)}}, {Turns: []int{0}, Arrivals: []api.Arrival{{}}},
		{Turns: []int{0, 0}, Arrivals: []api.Arrival{arrival(1, 1), arrival(0, 1)}}, {Turns: []int{math.MaxInt, math.MaxInt, 2}},
		{Turns: []int{0}, Sales: []api.Sale{{}}}, {Turns: []int{0}, Sales: []api.Sale{sale(5, cold, 1, 0), sale(5, hot, 1, 0)}}, {Turns: []int{0}, Sales: []api.Sale{sale(5, cold, 1, 0), sale(4, hot, 1, 0)}},
		with(example(), func(p *api.Plan) { p.Sales = many(9) }),
	} {
		if e := plan.Check(p); e != api.ErrPlan {
			t.Error(p, e)
		}
	}
}

// TestDidValid checks P4.1 and R6: of all lists just those are valid that can have been done.
func TestDidValid(t *testing.T) {
	counts := map[bool]int{}
	small(1, 60, func(r *rand.Rand, p api.Plan) {
		for range 300 {
			l := make([]api.Did, r.Intn(min(all(p.Turns), 4)+2))
			for i := range l {
				l[i] = api.Did{Sort: r.Intn(3), Burst: r.Intn(4) == 0}
				if r.Intn(30) == 0 {
					l[i].Sort = 5*r.Intn(2) - 1
				}
			}
			_, ok := tell(p, l)
			want := map[bool]api.Errno{true: api.OK, false: api.ErrDid}[ok]
			if _, e := plan.Play(p, l); e != want {
				t.Fatal(p, l, e, want)
			}
			counts[ok]++
		}
	})
	if counts[true] < 1000 || counts[false] < 1000 {
		t.Error(counts)
	}
}

// roomy is a list with room behind its end, in which something else lies.
func roomy[T any](l []T, other T) []T {
	k := append(slices.Clone(l), other, other)
	return k[:len(l)]
}

// TestMemory checks P1 (R3): arguments are left as they are, also behind their ends, calls do not depend on those before, and results are new memory.
func TestMemory(t *testing.T) {
	for _, f := range calls() {
		a := f.start()
		a.p.Turns, a.p.Arrivals, a.p.Sales, a.l = roomy(a.p.Turns, 77), roomy(a.p.Arrivals, arrival(77, 7)), roomy(a.p.Sales, sale(77, 7, 7, 7)), roomy(a.l, burst(77))
		a.q.Pressings, a.q.Weighings = roomy(a.q.Pressings, api.Pressing{Id: 77}), roomy(a.q.Weighings, api.Weighing{Number: 77})
		turns, arrivals, sales, done := a.p.Turns[:5], a.p.Arrivals[:3], a.p.Sales[:4], a.l[:len(a.l)+2]
		pressings, weighings := a.q.Pressings[:5], a.q.Weighings[:17]
		kept := fmt.Sprint(turns, arrivals, sales, done, pressings, weighings)
		before, _ := f.run(a)
		text := fmt.Sprint(before)
		again, _ := f.run(a)
		if !reflect.DeepEqual(before, again) {
			t.Error(f.name, before, again)
		}
		if fmt.Sprint(turns, arrivals, sales, done, pressings, weighings) != kept {
			t.Error(f.name, "writes to its arguments")
		}
		clear(turns)
		clear(arrivals)
		clear(sales)
		clear(done)
		clear(pressings)
		clear(weighings)
		wipe(again)
		if fmt.Sprint(before) != text {
			t.Error(f.name, "shares memory")
		}
	}
}

// wipe clears all lists of results.
func wipe(l []any) {
	for _, x := range l {
		switch y := x.(type) {
		case []int:
			clear(y)
		case api.Plan:
			clear(y.Turns)
			clear(y.Arrivals)
			clear(y.Sales)
		}
	}
}

// TestEmpty checks P1 (R4): nil is as good as empty, and a plan may have neither arrivals nor sales.
func TestEmpty(t *testing.T) {
	wants := map[string]api.Errno{"Lost": api.ErrNone, "Worst": api.ErrLate, "Refuse": api.ErrNone}
	for _, f := range calls() {
		var texts []string
		for _, empty := range []bool{true, false} {
			a := fine()
			a.p.Arrivals, a.p.Sales, a.l, a.q = nil, nil, nil, api.Press{}
			if empty {
				a.p.Arrivals, a.p.Sales, a.l, a.q = []api.Arrival{}, []api.Sale{}, []api.Did{}, api.Press{Pressings: []api.Pressing{}, Weighings: []api.Weighing{}}
			}
			l, e := f.run(a)
			if e != wants[f.name] {
				t.Error(f.name, e)
			}
			texts = append(texts, fmt.Sprint(l))
		}
		if texts[0] != texts[1] {
			t.Error(f.name, texts)
		}
	}
}
