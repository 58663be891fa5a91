package stow_test

import (
	"fmt"
	"math"
	"reflect"
	"slices"
	"testing"

	"oilcake/api"
	"oilcake/stow"
)

// args are the arguments of all functions.
type args struct {
	s         api.Ship
	hold, lot int
	p         api.Place
	l         []api.Term
	q         api.Part
	x         api.Probe
	numbers   []int
}

// fine are arguments with which no function returns an error.
func fine() args {
	return args{s: example(probe(5, 2, 35, 0), probe(7, 1, 9, 0)), hold: 1, lot: 3, p: place(2, 3), l: terms(), q: part(2, 4), x: probe(6, 2, 0, 2), numbers: []int{1, 7}}
}

// fault is an error, and all that is done to arguments to lead to it.
type fault struct {
	e  api.Errno
	by []func(a *args)
}

// far are numbers that nothing allows.
func far() []int {
	return []int{-1, -2, math.MinInt, math.MinInt + 1, math.MaxInt, math.MaxInt - 1, math.MinInt32, math.MaxInt32, math.MaxUint32 + 1, math.MinInt / 2, math.MaxInt/2 + 1}
}

// each are changes of arguments by numbers that nothing allows, and by some more.
func each(set func(a *args, n int), more ...int) []func(a *args) {
	var by []func(a *args)
	for _, n := range append(far(), more...) {
		by = append(by, func(a *args) { set(a, n) })
	}
	return by
}

func badHolds() []func(a *args) {
	return slices.Concat(
		each(func(a *args, n int) { a.s.Holds[0].Id = n }, 0, 2, 3, 10000),
		each(func(a *args, n int) { a.s.Holds[1].Id = n }, 0, 1, 3, 10000), // 3: a probe of the hold 2 is left
		each(func(a *args, n int) { a.s.Holds[0].Room = n }, 0, 37),
		each(func(a *args, n int) { a.s.Holds[1].Room = n }, 0, 37),
		[]func(a *args){
			func(a *args) { a.s = api.Ship{} },
			func(a *args) { a.s.Holds = nil },
			func(a *args) { a.s.Holds = holds(10, 8, 5, 5) },
			func(a *args) { a.s.Holds = make([]api.Hold, 100000) },
			func(a *args) { slices.Reverse(a.s.Holds) },
		},
	)
}

func badLots() []func(a *args) {
	return slices.Concat(
		each(func(a *args, n int) { a.s.Lots[0].Id = n }, 0, 2, 3, 10000),
		each(func(a *args, n int) { a.s.Lots[2].Id = n }, 0, 1, 2, 10000),
		each(func(a *args, n int) { a.s.Lots[1].Mark = n }, 0, 10),
		each(func(a *args, n int) { a.s.Lots[1].Bags = n }, 0, 1, 30, 36, 37), // 1: 2 of them are dirty
		each(func(a *args, n int) { a.s.Lots[1].Dirty = n }, 6, 36),
		[]func(a *args){
			func(a *args) { a.s.Lots = many(6) },
			func(a *args) { a.s.Lots = many(100000) },
			func(a *args) { slices.Reverse(a.s.Lots) },
			func(a *args) { a.s.Lots[0].Bags, a.s.Lots[1].Bags = math.MaxInt, math.MaxInt },
			func(a *args) { a.s.Lots[0].Bags, a.s.Lots[1].Bags = math.MaxInt/2+1, math.MaxInt/2+1 },
			func(a *args) { a.s.Lots[0].Bags, a.s.Lots[0].Dirty = math.MinInt, math.MinInt },
		},
	)
}

// many are so many lots of a bag, with the Ids 11, 12 and so on.
func many(n int) []api.Lot {
	var l []api.Lot
	for i := range n {
		l = append(l, lot(11+i, 1, 1, 0))
	}
	return l
}

func badProbes() []func(a *args) {
	return slices.Concat(
		each(func(a *args, n int) { a.s.Probes[0].Number = n }, 0, 5, 6, 7, 10000),
		each(func(a *args, n int) { a.s.Probes[2].Number = n }, 0, 4, 5, 10000),
		each(func(a *args, n int) { a.s.Probes[1].Hold = n }, 0, 3, 9999),
		each(func(a *args, n int) { a.s.Probes[1].Depth = n }, 36),
		each(func(a *args, n int) { a.s.Probes[1].Mark = n }, 10),
		each(func(a *args, n int) { a.s.Limit = n }, 101),
		[]func(a *args){
			func(a *args) { a.s.Probes = unmarked(11) },
			func(a *args) { a.s.Probes = unmarked(100000) },
			func(a *args) { slices.Reverse(a.s.Probes) },
		},
	)
}

// unmarked are so many probes that find nothing, with the Numbers 11, 12 and so on.
func unmarked(n int) []api.Probe {
	var l []api.Probe
	for i := range n {
		l = append(l, probe(11+i, 1, 35, 0))
	}
	return l
}

func badShip() fault { return fault{api.ErrShip, slices.Concat(badHolds(), badLots(), badProbes())} }

func noLot() fault {
	return fault{api.ErrNone, each(func(a *args, n int) { a.lot = n }, 0, 4, 9999)}
}

func noHold() fault {
	return fault{api.ErrNone, each(func(a *args, n int) { a.hold = n }, 0, 3, 9999)}
}

func badPlace() fault {
	return fault{api.ErrPlace, slices.Concat(
		each(func(a *args, n int) { a.p.Hold = n }, 0, 3, 9999),
		each(func(a *args, n int) { a.p.Depth = n }, 36, 37),
	)}
}

func noWay() fault {
	return fault{api.ErrBad, []func(a *args){
		func(a *args) { a.s.Holds = holds(4, 7) },
		func(a *args) { a.s.Holds = holds(8, 3) },
		func(a *args) { a.s.Probes = []api.Probe{probe(1, 1, 0, 1), probe(2, 1, 0, 2)} },
		func(a *args) { a.s.Probes = []api.Probe{probe(9999, 1, 35, 1)} },
		func(a *args) { a.s.Probes = []api.Probe{probe(1, 1, 0, 9)} },
		func(a *args) { a.s.Probes = []api.Probe{probe(1, 1, 3, 1), probe(2, 1, 2, 0)} },
	}}
}

func badTerms() fault {
	return fault{api.ErrTerms, slices.Concat(
		each(func(a *args, n int) { a.l[0].From = n }, 0, 10, 101),
		each(func(a *args, n int) { a.l[1].Pence = n }, 99, 1001, 1000001),
		[]func(a *args){func(a *args) {
			a.l = []api.Term{{From: 1}, {From: 2}, {From: 3}, {From: 4}, {From: 5}, {From: 6}}
		}, func(a *args) { slices.Reverse(a.l) }},
	)}
}

func badChance() fault {
	return fault{api.ErrChance, slices.Concat(
		each(func(a *args, n int) { a.q = part(n, 4) }, 5),
		each(func(a *args, n int) { a.q = part(0, n) }, 0, 1001),
		each(func(a *args, n int) { a.q = part(n, n) }, 0, 1001),
	)}
}

func noDirt() fault {
	return fault{api.ErrNone, []func(a *args){
		func(a *args) { a.s.Lots[1].Dirty, a.s.Lots[2].Dirty = 0, 0 },
		func(a *args) { a.s.Probes = []api.Probe{probe(1, 1, 4, 0), probe(2, 1, 3, 1)} },
		func(a *args) { a.s.Holds = holds(4, 8) },
	}}
}

func undecidable() fault {
	return fault{api.ErrNone, []func(a *args){
		func(a *args) {
			a.s.Lots, a.s.Probes = []api.Lot{lot(1, 1, 4, 0), lot(2, 1, 4, 4), lot(3, 1, 4, 0)}, nil
		},
		func(a *args) { a.s.Lots, a.s.Probes = []api.Lot{lot(1, 3, 5, 0), lot(2, 3, 5, 5)}, nil },
	}}
}

func isDecided() fault {
	return fault{api.ErrNone, []func(a *args){
		func(a *args) { a.s.Limit = 100 },
		func(a *args) { a.s.Lots[1].Dirty, a.s.Lots[2].Dirty = 0, 0 },
		func(a *args) { a.s.Limit, a.s.Lots[0].Dirty = 0, 1 },
		func(a *args) { a.s.Probes = []api.Probe{probe(3, 2, 6, 1)} },
	}}
}

// tooSmall is the fault of holds in which there is no room for all lots.
func tooSmall() fault {
	return fault{api.ErrNone, []func(a *args){
		func(a *args) { a.s.Holds = holds(4, 7) },
		func(a *args) { a.s.Holds, a.s.Probes = holds(8, 3), nil },
		func(a *args) { a.s.Lots, a.s.Holds = []api.Lot{lot(5, 1, 36, 0)}, holds(35, 35) },
	}}
}

func fullProbes() fault {
	return fault{api.ErrFull, []func(a *args){func(a *args) { a.s.Probes = unmarked(10) }}}
}

func badProbe() fault {
	return fault{api.ErrProbe, slices.Concat(
		each(func(a *args, n int) { a.x.Number = n }, 0, 1, 5, 7, 10000),
		each(func(a *args, n int) { a.x.Hold = n }, 0, 3),
		each(func(a *args, n int) { a.x.Depth = n }, 36),
		each(func(a *args, n int) { a.x.Mark = n }, 10),
	)}
}

func badNumbers() fault {
	return fault{api.ErrProbe, slices.Concat(
		each(func(a *args, n int) { a.numbers = []int{n} }, 0, 2, 4, 6, 8),
		each(func(a *args, n int) { a.numbers = []int{1, n} }, 0, 1, 6),
		each(func(a *args, n int) { a.numbers = []int{n, 5} }, 0, 2, 5, 7),
		each(func(a *args, n int) { a.numbers = []int{1, 5, 7, n} }, 1, 7, 8),
		each(func(a *args, n int) { a.numbers = make([]int, 100000) }),
	)}
}

// call is a function with the faults that it names, in their order.
type call struct {
	name   string
	run    func(a args) ([]any, api.Errno)
	faults []fault
}

func one[T any](x T, e api.Errno) ([]any, api.Errno) { return []any{x}, e }

func calls() []call {
	return []call{
		{"Check", func(a args) ([]any, api.Errno) { return nil, stow.Check(a.s) }, []fault{badShip()}},
		{"Ways", func(a args) ([]any, api.Errno) { return one(stow.Ways(a.s)) }, []fault{badShip()}},
		{"First", func(a args) ([]any, api.Errno) { return one(stow.First(a.s)) }, []fault{badShip(), noWay()}},
		{"Where", func(a args) ([]any, api.Errno) { return one(stow.Where(a.s, a.lot)) }, []fault{badShip(), noLot(), noWay()}},
		{"At", func(a args) ([]any, api.Errno) { return one(stow.At(a.s, a.p)) }, []fault{badShip(), badPlace(), noWay()}},
		{"Bags", func(a args) ([]any, api.Errno) { return one(stow.Bags(a.s, a.hold)) }, []fault{badShip(), noHold(), noWay()}},
		{"Dirty", func(a args) ([]any, api.Errno) { return one(stow.Dirty(a.s, a.hold)) }, []fault{badShip(), noHold(), noWay()}},
		{"Verdict", func(a args) ([]any, api.Errno) { return one(stow.Verdict(a.s, a.hold)) }, []fault{badShip(), noHold(), noWay()}},
		{"Costs", func(a args) ([]any, api.Errno) { return one(stow.Costs(a.s, a.hold, a.l)) }, []fault{badShip(), noHold(), noWay(), badTerms()}},
		{"Find", func(a args) ([]any, api.Errno) { return one(stow.Find(a.s, a.hold, a.q)) }, []fault{badShip(), noHold(), noWay(), badChance(), noDirt()}},
		{"Decide", func(a args) ([]any, api.Errno) { return one(stow.Decide(a.s, a.hold)) }, []fault{badShip(), noHold(), noWay(), undecidable()}},
		{"Next", func(a args) ([]any, api.Errno) {
			p, left, e := stow.Next(a.s, a.hold)
			return []any{p, left}, e
		}, []fault{badShip(), noHold(), noWay(), isDecided()}},
		{"Wrong", func(a args) ([]any, api.Errno) { return one(stow.Wrong(a.s)) }, []fault{badShip(), tooSmall()}},
		{"Put", func(a args) ([]any, api.Errno) { return one(stow.Put(a.s, a.x)) }, []fault{badShip(), fullProbes(), badProbe()}},
		{"Strike", func(a args) ([]any, api.Errno) { return one(stow.Strike(a.s, a.numbers)) }, []fault{badShip(), badNumbers()}},
	}
}

func zero(l []any) bool {
	for _, x := range l {
		v := reflect.ValueOf(x)
		if !v.IsZero() && !(v.Kind() == reflect.Slice && v.Len() == 0) {
			return false
		}
	}
	return true
}

// spoilt are arguments with a fault, and with some of those behind it. These come first: what is checked first counts.
func spoilt(f call, i, k, more int) args {
	a := fine()
	for j := len(f.faults) - 1; j > i; j-- {
		if more>>(j-i-1)&1 == 1 {
			behind := f.faults[j].by
			behind[k%len(behind)](&a)
		}
	}
	if i == 0 { // a ship that was spoilt behind has fewer things to spoil
		a.s = fine().s
	}
	f.faults[i].by[k](&a)
	return a
}

// TestErrors checks P5.1 and P1 (R1, R2, R5, R6, R7), and the errors of P5.3 to P5.7: each fault leads to its error, whatever other faults come behind it, and all results are zero values then.
func TestErrors(t *testing.T) {
	for _, f := range calls() {
		if _, e := f.run(fine()); e != api.OK {
			t.Errorf("%s: %d without a fault", f.name, e)
		}
		for i, x := range f.faults {
			for k := range x.by {
				for more := range 1 << (len(f.faults) - i - 1) {
					a := spoilt(f, i, k, more)
					if l, e := f.run(a); e != x.e || !zero(l) {
						t.Errorf("%s, fault %d.%d (%b): %d, want %d, results %v of %v", f.name, i, k, more, e, x.e, l, a)
					}
				}
			}
		}
	}
}

// TestNoWay checks P5.1: a ship without a way is valid, and Ways, Wrong, Put and Strike work on it.
func TestNoWay(t *testing.T) {
	for k, by := range noWay().by {
		a := fine()
		by(&a)
		a.x.Number, a.numbers = 12, nil
		if e := stow.Check(a.s); e != api.OK {
			t.Error(k, e)
		}
		if n, e := stow.Ways(a.s); n != 0 || e != api.OK {
			t.Error(k, n, e)
		}
		if _, e := stow.Wrong(a.s); (e != api.OK) != (k < 2) || e != api.OK && e != api.ErrNone {
			t.Error(k, e)
		}
		if s, e := stow.Put(a.s, a.x); len(s.Probes) != len(a.s.Probes)+1 || e != api.OK {
			t.Error(k, s, e)
		}
		if s, e := stow.Strike(a.s, a.numbers); !same(s, a.s) || e != api.OK {
			t.Error(k, s, e)
		}
	}
}

// TestShipValid checks P5.1 and R6: ships at the ends of what is allowed are valid, those behind them not.
func TestShipValid(t *testing.T) {
	ends := api.Ship{Holds: []api.Hold{{Id: 1, Room: 1}, {Id: 9999, Room: 36}}, Lots: []api.Lot{lot(1, 1, 1, 0), lot(9999, 9, 35, 35)}, Limit: 100}
	ends.Probes = []api.Probe{probe(1, 1, 0, 0), probe(9999, 9999, 35, 9)}
	for _, s := range []api.Ship{
		example(), ends,
		{Holds: holds(1)},
		{Holds: holds(36, 36, 36), Lots: many(5), Probes: unmarked(10)},
		{Holds: holds(1), Lots: []api.Lot{lot(1, 9, 36, 36)}},
		{Holds: holds(5), Probes: []api.Probe{probe(1, 1, 35, 0), probe(2, 1, 35, 9), probe(3, 1, 35, 8)}},
	} {
		if e := stow.Check(s); e != api.OK {
			t.Error(s, e)
		}
	}
	for _, s := range []api.Ship{
		{}, {Holds: []api.Hold{}}, {Holds: []api.Hold{{}}}, {Holds: holds(1, 1, 1, 1)},
		{Holds: []api.Hold{{Id: 5, Room: 1}, {Id: 5, Room: 2}}},
		{Holds: holds(5), Lots: []api.Lot{{}}},
		{Holds: holds(5), Lots: []api.Lot{lot(1, 1, 0, 0)}},
		{Holds: holds(5), Lots: []api.Lot{lot(2, 1, 1, 0), lot(2, 1, 1, 0)}},
		{Holds: holds(5), Lots: []api.Lot{lot(2, 1, 1, 0), lot(1, 1, 1, 0)}},
		{Holds: holds(5), Lots: []api.Lot{lot(1, 1, 36, 0), lot(2, 1, 1, 0)}},
		{Holds: holds(5), Lots: many(6)},
		{Holds: holds(5), Probes: []api.Probe{{}}},
		{Holds: holds(5), Probes: []api.Probe{probe(1, 2, 0, 0)}},
		{Holds: holds(5), Probes: []api.Probe{probe(3, 1, 0, 0), probe(3, 1, 0, 0)}},
		{Holds: holds(5), Probes: unmarked(11)},
		{Holds: holds(5), Limit: 101}, {Holds: holds(5), Limit: -1},
	} {
		if e := stow.Check(s); e != api.ErrShip {
			t.Error(s, e)
		}
	}
}

// stuffed is a list with room behind its end, in which something else lies.
func stuffed[T any](l []T, other T) []T {
	k := append(slices.Clone(l), other, other)
	return k[:len(l)]
}

// TestMemory checks P1 (R3): arguments are left as they are, also behind their ends, calls do not depend on those before, and results are new memory.
func TestMemory(t *testing.T) {
	for _, f := range calls() {
		a := fine()
		a.s.Holds, a.s.Lots, a.s.Probes = stuffed(a.s.Holds, api.Hold{Id: 77}), stuffed(a.s.Lots, lot(77, 7, 7, 7)), stuffed(a.s.Probes, probe(77, 7, 7, 7))
		a.l, a.numbers = stuffed(a.l, api.Term{From: 77}), stuffed(a.numbers, 77)
		holds, lots, probes, terms, numbers := a.s.Holds[:4], a.s.Lots[:5], a.s.Probes[:5], a.l[:5], a.numbers[:4]
		kept := fmt.Sprint(holds, lots, probes, terms, numbers)
		before, _ := f.run(a)
		text := fmt.Sprint(before)
		again, _ := f.run(a)
		if !reflect.DeepEqual(before, again) {
			t.Error(f.name, before, again)
		}
		if fmt.Sprint(holds, lots, probes, terms, numbers) != kept {
			t.Error(f.name, "writes to its arguments")
		}
		clear(holds)
		clear(lots)
		clear(probes)
		clear(terms)
		clear(numbers)
		wipe(again)
		if fmt.Sprint(before) != text {
			t.Error(f.name, "shares memory")
		}
	}
}

// wipe clears all lists of results.
func wipe(l []any) {
	for _, x := range l {
		switch y := x.(type) {
		case []int:
			clear(y)
		case []api.Place:
			clear(y)
		case api.Ship:
			clear(y.Holds)
			clear(y.Lots)
			clear(y.Probes)
		}
	}
}

// TestEmpty checks P1 (R4) and P5.2 to P5.7: nil is as good as empty; a ship without lots has one way, in which nothing lies anywhere.
func TestEmpty(t *testing.T) {
	wants := map[string]string{
		"Check": "[] 0", "Ways": "[1] 0", "First": "[[]] 0", "Where": "[[]] 6", "At": "[[0]] 0", "Bags": "[{0 0}] 0", "Dirty": "[{0 0}] 0", "Verdict": "[2] 0", "Costs": "[{0 0}] 0",
		"Find": "[0] 6", "Decide": "[[]] 0", "Next": "[{0 0} 0] 6", "Wrong": "[[]] 0", "Put": "[{[{1 5}] [] [{6 1 0 0}] 0}] 0", "Strike": "[{[{1 5}] [] [] 0}] 0",
	}
	for _, s := range []api.Ship{{Holds: holds(5)}, {Holds: holds(5), Lots: []api.Lot{}, Probes: []api.Probe{}}} {
		for _, f := range calls() {
			for _, a := range []args{{s: s}, {s: s, l: []api.Term{}, numbers: []int{}}} {
				a.hold, a.lot, a.p, a.q, a.x = 1, 1, place(1, 0), part(1, 2), probe(6, 1, 0, 0)
				l, e := f.run(a)
				if got := fmt.Sprint(l, int(e)); got != wants[f.name] {
					t.Error(f.name, got)
				}
			}
		}
	}
}
