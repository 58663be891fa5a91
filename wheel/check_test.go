package wheel_test

import (
	"fmt"
	"math"
	"reflect"
	"slices"
	"testing"

	"oilcake/api"
	"oilcake/plan"
	"oilcake/wheel"
)

// args are the arguments of all functions.
type args struct {
	w                 api.Wheels
	l                 []api.Pair
	wish              api.Part
	pairs             int
	one, other, tooth int
	s                 api.Shaft
	set               []int
	by                int
	x                 api.Stamper
	p                 api.Plan
	water             []int
	blows             int
}

// fine are arguments with which no function returns an error.
func fine() args {
	return args{
		w: exampleWheels(), l: train(1, 2, 4, 3), wish: part(4, 10), pairs: 2, one: 20, other: 30, tooth: 7,
		s: exampleShaft(), set: ints(0, 2, 2), by: 1, x: stamper(3, 1, 10), p: examplePlan(), water: ints(100, 30, 0), blows: 20,
	}
}

// fault is an error, and all that is done to arguments to lead to it.
type fault struct {
	e  api.Errno
	by []func(a *args)
}

// far are numbers that nothing allows.
func far() []int {
	return []int{-100, -101, math.MinInt, math.MinInt + 1, math.MaxInt, math.MaxInt - 1, math.MinInt32, math.MaxInt32, math.MaxUint32 + 1, math.MaxUint32 + 2, math.MaxUint32 + 21, math.MinInt / 2, math.MaxInt/2 + 1}
}

// each are changes of arguments by numbers that nothing allows, and by some more.
func each(set func(a *args, n int), more ...int) []func(a *args) {
	var by []func(a *args)
	for _, n := range append(far(), more...) {
		by = append(by, func(a *args) { set(a, n) })
	}
	return by
}

func badWheels() fault {
	return fault{api.ErrWheels, slices.Concat(
		each(func(a *args, n int) { a.w.Teeth[0] = n }, -20, -1, 0, 1, 5, 121),
		each(func(a *args, n int) { a.w.Teeth[3] = n }, -20, -1, 0, 1, 5, 121),
		each(func(a *args, n int) { a.w.Teeth = ints(n) }, 0, 5, 121),
		each(func(a *args, n int) { a.w.Teeth = append(a.w.Teeth, n) }, 0, 5, 121),
		[]func(a *args){
			func(a *args) { a.w = wheels(20, 30, 40, 24, 20, 20, 20, 20, 20) },
			func(a *args) { a.w.Teeth = slices.Repeat(ints(20), 100000) },
			func(a *args) { a.w.Teeth = make([]int, 100000) },
			func(a *args) { a.w.Teeth = make([]int, 4) },
		},
	)}
}

// eight is wheels for four pairs, more than a train may have.
func eight(a *args) { a.w = wheels(20, 30, 40, 24, 20, 30, 40, 24) }

func badTrain() fault {
	return fault{api.ErrTrain, slices.Concat(
		each(func(a *args, n int) { a.l[0].Driver = n }, -1, 0, 2, 3, 4, 5, 9),
		each(func(a *args, n int) { a.l[0].Driven = n }, -1, 0, 1, 3, 4, 5, 9),
		each(func(a *args, n int) { a.l[1].Driver = n }, -1, 0, 1, 2, 3, 5, 9),
		each(func(a *args, n int) { a.l[1].Driven = n }, -1, 0, 1, 2, 4, 5, 9),
		each(func(a *args, n int) { a.l = train(n, n) }, 0, 1, 4, 5),
		each(func(a *args, n int) { eight(a); a.l = train(1, 2, 3, 4, 5, n) }, 0, 1, 2, 3, 4, 5, 9),
		[]func(a *args){
			func(a *args) { a.l = nil },
			func(a *args) { a.l = []api.Pair{} },
			func(a *args) { a.l = train(1, 2, 1, 2) },
			func(a *args) { a.l = train(1, 2, 2, 1) },
			func(a *args) { a.l = train(1, 2, 4, 3, 1, 2) },
			func(a *args) { a.w = api.Wheels{} },
			func(a *args) { a.w.Teeth = a.w.Teeth[:3] },
			func(a *args) { eight(a); a.l = train(1, 2, 3, 4, 5, 6, 7, 8) },
			func(a *args) { a.l = make([]api.Pair, 100000) },
			func(a *args) { a.l = slices.Repeat(train(1, 2), 100000) },
		},
	)}
}

func badWish() fault {
	return fault{api.ErrArg, slices.Concat(
		each(func(a *args, n int) { a.wish.Num = n }, -4, -1, 0, 1001),
		each(func(a *args, n int) { a.wish.Den = n }, -10, -1, 0, 1001),
		each(func(a *args, n int) { a.wish = part(n, n) }, -1, 0, 1001),
	)}
}

func badPairs() fault {
	return fault{api.ErrArg, each(func(a *args, n int) { a.pairs = n }, -2, -1, 0, 4, 5)}
}

// fewWheels is the fault of wheels that are not even two.
func fewWheels() fault {
	return fault{api.ErrNone, []func(a *args){
		func(a *args) { a.w = api.Wheels{} },
		func(a *args) { a.w = wheels(20) },
	}}
}

// noTrain is the fault of a wish that no train hits.
func noTrain() fault {
	return fault{api.ErrNone, append([]func(a *args){
		func(a *args) { a.wish = part(7, 10) },
		func(a *args) { a.wish = part(1, 1) },
		func(a *args) { a.wish = part(2, 1000) },
		func(a *args) { a.wish = part(399, 1000) },
		func(a *args) { a.w = wheels(20, 40, 60) },
		func(a *args) { a.w.Teeth = a.w.Teeth[:3] },
	}, append(fewWheels().by, func(a *args) { a.w.Teeth[3] = 25 })...)}
}

func badMesh() fault {
	return fault{api.ErrArg, slices.Concat(
		each(func(a *args, n int) { a.one = n }, -20, -1, 0, 1, 5, 121),
		each(func(a *args, n int) { a.other = n }, -30, -1, 0, 1, 5, 121),
		each(func(a *args, n int) { a.one, a.other = n, n }, -20, -1, 0, 1, 5, 121),
	)}
}

func badTooth() fault {
	f := badMesh()
	f.by = append(f.by, each(func(a *args, n int) { a.tooth = n }, -13, -1, 20, 21, 29, 30)...)
	f.by = append(f.by, func(a *args) { a.one, a.tooth = 6, 6 }, func(a *args) { a.one, a.other, a.tooth = 120, 120, 120 })
	return f
}

func badShaft() fault {
	return fault{api.ErrShaft, slices.Concat(
		each(func(a *args, n int) { a.s.Marks = n }, -6, -1, 0, 1, 2, 3, 5, 13, 18),
		each(func(a *args, n int) { a.s = shaft(n) }, -6, -1, 0, 13, 18),
		each(func(a *args, n int) { a.s.Stampers[0].Cams = n }, -3, -2, -1, 0, 3, 4, 5, 6, 7, 12),
		each(func(a *args, n int) { a.s.Stampers[2].Cams = n }, -3, -2, -1, 0, 4, 5, 6, 7, 12),
		each(func(a *args, n int) { a.s.Stampers[0].Up = n }, -1, 0, 6, 7),
		each(func(a *args, n int) { a.s.Stampers[2].Up = n }, -1, 0, 3, 4),
		each(func(a *args, n int) { a.s.Stampers[1].Pounds = n }, -80, -1, 0, 501),
		each(func(a *args, n int) { a.s.Stampers[2].Pounds = n }, -50, -1, 0, 501),
		[]func(a *args){
			func(a *args) { a.s = api.Shaft{} },
			func(a *args) { a.s.Stampers[1] = api.Stamper{} },
			func(a *args) { a.s.Stampers = slices.Repeat(a.s.Stampers[:1], 5) },
			func(a *args) { a.s.Stampers = slices.Repeat(a.s.Stampers[:1], 100000) },
			func(a *args) { a.s.Stampers = make([]api.Stamper, 100000) },
		},
	)}
}

func badSet() fault {
	return fault{api.ErrSet, slices.Concat(
		each(func(a *args, n int) { a.set[0] = n }, -6, -1, 6, 7),
		each(func(a *args, n int) { a.set[1] = n }, -6, -1, 6, 7),
		each(func(a *args, n int) { a.set[2] = n }, -3, -1, 3, 4, 5),
		[]func(a *args){
			func(a *args) { a.set = nil },
			func(a *args) { a.set = []int{} },
			func(a *args) { a.set = ints(0, 2) },
			func(a *args) { a.set = ints(0, 2, 2, 0) },
			func(a *args) { a.set = make([]int, 100000) },
			func(a *args) { a.s = shaft(6) },
			func(a *args) { a.s.Stampers = a.s.Stampers[:2] },
			func(a *args) {
				a.s.Marks, a.s.Stampers = 4, []api.Stamper{stamper(1, 1, 1), stamper(1, 1, 1), stamper(2, 1, 1)}
			},
		},
	)}
}

func badBy() fault {
	return fault{api.ErrArg, each(func(a *args, n int) { a.by = n }, -13, -14, 13, 14)}
}

func fullShaft() fault {
	return fault{api.ErrFull, []func(a *args){
		func(a *args) { a.s.Stampers = append(a.s.Stampers, stamper(3, 1, 10)) },
		func(a *args) { a.s.Stampers = slices.Repeat(a.s.Stampers[:1], 4) },
	}}
}

func badStamper() fault {
	return fault{api.ErrArg, slices.Concat(
		each(func(a *args, n int) { a.x.Cams = n }, -3, -2, -1, 0, 4, 5, 6, 7, 12),
		each(func(a *args, n int) { a.x.Up = n }, -1, 0, 2, 3),
		each(func(a *args, n int) { a.x.Pounds = n }, -1, 0, 501),
		[]func(a *args){
			func(a *args) { a.x = api.Stamper{} },
			func(a *args) { a.s = shaft(4) },
			func(a *args) { a.s = shaft(1) },
		},
	)}
}

func badPlan() fault {
	return fault{api.ErrPlan, slices.Concat(
		each(func(a *args, n int) { a.p.From = n }, -1, 3651),
		each(func(a *args, n int) { a.p.Turns[1] = n }, -1, 5),
		each(func(a *args, n int) { a.p.Seed = n }, -1, 31),
		each(func(a *args, n int) { a.p.Cakes = n }, -1, 31),
		each(func(a *args, n int) { a.p.Arrivals[0].Day = n }, 9, 13),
		each(func(a *args, n int) { a.p.Sales[0].Id = n }, -1, 0, 2, 10000),
		each(func(a *args, n int) { a.p.Bursts = n }, -1, 5),
		[]func(a *args){
			func(a *args) { a.p = api.Plan{} },
			func(a *args) { a.p.Turns = make([]int, 13) },
		},
	)}
}

func badWater() fault {
	return fault{api.ErrArg, slices.Concat(
		each(func(a *args, n int) { a.water[0] = n }, -1, 100001),
		each(func(a *args, n int) { a.water[2] = n }, -1, 100001),
		each(func(a *args, n int) { a.blows = n }, -20, -1, 0, 10001),
		[]func(a *args){
			func(a *args) { a.water = nil },
			func(a *args) { a.water = []int{} },
			func(a *args) { a.water = ints(100, 30) },
			func(a *args) { a.water = ints(100, 30, 0, 0) },
			func(a *args) { a.water = make([]int, 100000) },
			func(a *args) { a.p.Turns = append(a.p.Turns, 1) },
		},
	)}
}

// call is a function with the faults that it names, in their order.
type call struct {
	name   string
	run    func(a args) ([]any, api.Errno)
	faults []fault
}

func one[T any](x T, e api.Errno) ([]any, api.Errno) { return []any{x}, e }

func two[T, N any](x T, y N, e api.Errno) ([]any, api.Errno) { return []any{x, y}, e }

func wheelCalls() []call {
	return []call{
		{"Check", func(a args) ([]any, api.Errno) { return nil, wheel.Check(a.w) }, nil},
		{"Ratio", func(a args) ([]any, api.Errno) { return one(wheel.Ratio(a.w, a.l)) }, []fault{badTrain()}},
		{"Nearest", func(a args) ([]any, api.Errno) { return two(wheel.Nearest(a.w, a.wish, a.pairs)) }, []fault{badWish(), badPairs(), fewWheels()}},
		{"Exact", func(a args) ([]any, api.Errno) { return one(wheel.Exact(a.w, a.wish)) }, []fault{badWish(), noTrain()}},
		{"Many", func(a args) ([]any, api.Errno) { return one(wheel.Many(a.w, a.pairs)) }, []fault{badPairs()}},
		{"Hunts", func(a args) ([]any, api.Errno) { return one(wheel.Hunts(a.w, a.l)) }, []fault{badTrain()}},
		{"Again", func(a args) ([]any, api.Errno) { return one(wheel.Again(a.w, a.l)) }, []fault{badTrain()}},
	}
}

func shaftCalls() []call {
	return []call{
		{"Sound", func(a args) ([]any, api.Errno) { return nil, wheel.Sound(a.s) }, nil},
		{"Loads", func(a args) ([]any, api.Errno) { return one(wheel.Loads(a.s, a.set)) }, []fault{badSet()}},
		{"Best", func(a args) ([]any, api.Errno) { return two(wheel.Best(a.s)) }, nil},
		{"Fewest", func(a args) ([]any, api.Errno) { return two(wheel.Fewest(a.s)) }, nil},
		{"Bound", func(a args) ([]any, api.Errno) { return one(wheel.Bound(a.s)) }, nil},
		{"Turned", func(a args) ([]any, api.Errno) { return one(wheel.Turned(a.s, a.set, a.by)) }, []fault{badSet(), badBy()}},
		{"Add", func(a args) ([]any, api.Errno) { return one(wheel.Add(a.s, a.x)) }, []fault{fullShaft(), badStamper()}},
	}
}

func calls() []call {
	list := []call{
		{"Meet", func(a args) ([]any, api.Errno) { return two(wheel.Meet(a.one, a.other)) }, []fault{badMesh()}},
		{"Strikes", func(a args) ([]any, api.Errno) { return one(wheel.Strikes(a.one, a.other, a.tooth)) }, []fault{badTooth()}},
		{"Paced", func(a args) ([]any, api.Errno) { return one(wheel.Paced(a.p, a.water, a.w, a.l, a.blows)) }, []fault{badPlan(), badWheels(), badTrain(), badWater()}},
	}
	for _, f := range wheelCalls() {
		f.faults = append([]fault{badWheels()}, f.faults...)
		list = append(list, f)
	}
	for _, f := range shaftCalls() {
		f.faults = append([]fault{badShaft()}, f.faults...)
		list = append(list, f)
	}
	return list
}

func zero(l []any) bool {
	for _, x := range l {
		v := reflect.ValueOf(x)
		if !v.IsZero() && !(v.Kind() == reflect.Slice && v.Len() == 0) {
			return false
		}
	}
	return true
}

// spoil does something to arguments that leads to a fault. What was spoilt before can have nothing left to spoil.
func spoil(a *args, f fault, k int) {
	switch f.e {
	case api.ErrWheels:
		a.w = fine().w
	case api.ErrTrain:
		a.w, a.l = fine().w, fine().l
	case api.ErrShaft, api.ErrFull:
		a.s = fine().s
	case api.ErrSet:
		a.s, a.set = fine().s, fine().set
	case api.ErrPlan:
		a.p = fine().p
	}
	f.by[k%len(f.by)](a)
}

// spoilt are arguments with a fault of a call, and with some of those behind it. These come first: what is checked first counts.
func spoilt(f call, i, k, more int) args {
	a := fine()
	for j := len(f.faults) - 1; j > i; j-- {
		if more>>(j-i-1)&1 == 1 {
			spoil(&a, f.faults[j], k)
		}
	}
	spoil(&a, f.faults[i], k)
	return a
}

// TestErrors checks P10.1, P10.5 and P1 (R1, R2, R5, R6, R7), and the errors of P10.2 to P10.8: each fault leads to its error, whatever other faults come behind it, and all results are zero values then.
func TestErrors(t *testing.T) {
	for _, f := range calls() {
		if _, e := f.run(fine()); e != api.OK {
			t.Errorf("%s: %d without a fault", f.name, e)
		}
		for i, x := range f.faults {
			for k := range x.by {
				for more := range 1 << (len(f.faults) - i - 1) {
					a := spoilt(f, i, k, more)
					if l, e := f.run(a); e != x.e || !zero(l) {
						t.Errorf("%s, fault %d.%d (%b): %d, want %d, results %v", f.name, i, k, more, e, x.e, l)
					}
				}
			}
		}
	}
}

// TestPlanOfOthers checks P10.8 and R1: a train or water that fits no plan is not looked at before the plan, nor water before the train.
func TestPlanOfOthers(t *testing.T) {
	if e := plan.Check(api.Plan{}); e != api.ErrPlan {
		t.Fatal(e)
	}
	for _, x := range []struct {
		p api.Plan
		w api.Wheels
		l []api.Pair
		e api.Errno
	}{
		{api.Plan{}, wheels(1), nil, api.ErrPlan},
		{examplePlan(), wheels(1), nil, api.ErrWheels},
		{examplePlan(), wheels(20, 30), nil, api.ErrTrain},
		{examplePlan(), wheels(20, 30), train(1, 2), api.ErrArg},
	} {
		if p, e := wheel.Paced(x.p, nil, x.w, x.l, 0); e != x.e || !reflect.DeepEqual(p, api.Plan{}) {
			t.Error(x, p, e)
		}
	}
}

// TestWheelsValid checks P10.1 and R6: wheels at the ends of what is allowed are valid, those behind them not.
func TestWheelsValid(t *testing.T) {
	for n := range 12 {
		for _, teeth := range []int{5, 6, 7, 60, 119, 120, 121} {
			want := api.OK
			if n > 8 || n > 0 && (teeth < 6 || teeth > 120) {
				want = api.ErrWheels
			}
			if e := wheel.Check(wheels(slices.Repeat(ints(teeth), n)...)); e != want {
				t.Error(n, teeth, e)
			}
		}
	}
	for i := range 8 {
		for _, teeth := range []int{5, 121} {
			w := wheels(6, 120, 6, 120, 60, 60, 7, 119)
			if e := wheel.Check(w); e != api.OK {
				t.Error(e)
			}
			w.Teeth[i] = teeth
			if e := wheel.Check(w); e != api.ErrWheels {
				t.Error(i, teeth, e)
			}
		}
	}
}

// TestTrainValid checks P10.1, P10.3 and R6: of all lists of pairs those are trains that have one to three pairs, and no wheel twice.
func TestTrainValid(t *testing.T) {
	w := exampleWheels()
	try := func(l []api.Pair, valid bool) {
		_, e := wheel.Ratio(w, l)
		_, f := wheel.Hunts(w, l)
		_, g := wheel.Again(w, l)
		want := api.ErrTrain
		if valid {
			want = api.OK
		}
		if e != want || f != want || g != want {
			t.Error(w, l, e, f, g)
		}
	}
	there := func(l ...int) bool {
		return !slices.ContainsFunc(l, func(n int) bool { return n < 1 || n > len(w.Teeth) })
	}
	for a := -1; a < 7; a++ {
		for b := -1; b < 7; b++ {
			try(train(a, b), there(a, b) && a != b)
			for c := -1; c < 7; c++ {
				for d := -1; d < 7; d++ {
					l := train(a, b, c, d)
					try(l, there(a, b, c, d) && distinct(l))
				}
			}
		}
	}
	w = wheels(6, 120, 60, 61, 62, 63, 7, 8)
	try(nil, false)
	try(train(8, 1, 7, 2, 6, 3), true)
	try(train(8, 1, 7, 2, 6, 3, 5, 4), false)
	try(train(8, 1, 7, 2, 6, 8), false)
	try(train(8, 1, 7, 2, 1, 3), false)
	try(train(8, 1, 7, 2, 3, 3), false)
	w = wheels(20, 20)
	try(train(2, 1), true)
}

// TestShaftValid checks P10.5, P10.7 and R6: all shafts with one stamper, at the ends of what is allowed and behind them; also as the one that is added.
func TestShaftValid(t *testing.T) {
	for marks := -1; marks < 15; marks++ {
		sound := marks >= 1 && marks <= 12
		if e := wheel.Sound(shaft(marks)); (e == api.OK) != sound || !sound && e != api.ErrShaft {
			t.Error(marks, e)
		}
		for cams := -1; cams < 15; cams++ {
			for up := -1; up < 14; up++ {
				for _, pounds := range []int{-1, 0, 1, 500, 501} {
					x := stamper(cams, up, pounds)
					valid := sound && cams > 0 && marks%cams == 0 && up > 0 && up*cams < marks && pounds > 0 && pounds <= 500
					if e := wheel.Sound(shaft(marks, x)); (e == api.OK) != valid || !valid && e != api.ErrShaft {
						t.Error(marks, x, e)
					}
					want := api.OK
					if !sound {
						want = api.ErrShaft
					} else if !valid {
						want = api.ErrArg
					}
					if s, e := wheel.Add(shaft(marks), x); e != want || valid && !reflect.DeepEqual(s, shaft(marks, x)) {
						t.Error(marks, x, s, e)
					}
				}
			}
		}
	}
	great := shaft(12, stamper(6, 1, 500), stamper(1, 11, 1), stamper(4, 2, 500), stamper(3, 3, 1))
	if e := wheel.Sound(great); e != api.OK {
		t.Error(e)
	}
	great.Stampers = append(great.Stampers, stamper(1, 1, 1))
	if e := wheel.Sound(great); e != api.ErrShaft {
		t.Error(e)
	}
}

// TestSettingValid checks P10.5, P10.7 and R6: of all lists of three numbers those are settings that are below the marks from cam to cam.
func TestSettingValid(t *testing.T) {
	s := exampleShaft()
	valid := settings(s)
	if len(valid) != 6*6*3 {
		t.Fatal(len(valid))
	}
	for a := -2; a < 8; a++ {
		for b := -2; b < 8; b++ {
			for c := -2; c < 8; c++ {
				set := ints(a, b, c)
				want := api.ErrSet
				if slices.ContainsFunc(valid, func(l []int) bool { return slices.Equal(l, set) }) {
					want = api.OK
				}
				_, e := wheel.Loads(s, set)
				_, f := wheel.Turned(s, set, 0)
				if e != want || f != want {
					t.Error(set, e, f)
				}
			}
		}
	}
}

// roomy is a list with room behind its end, in which something else lies.
func roomy[T any](l []T, other T) []T {
	k := append(slices.Clone(l), other, other)
	return k[:len(l)]
}

func full[T any](l []T) []T { return l[:cap(l)] }

// argLists are the arguments' lists, with what is behind their ends.
func argLists(a args) []any {
	return append([]any{full(a.w.Teeth), full(a.l), full(a.s.Stampers), full(a.set), full(a.water)}, planLists(a.p)...)
}

func planLists(p api.Plan) []any { return []any{full(p.Turns), full(p.Arrivals), full(p.Sales)} }

func roomyArgs() args {
	a := fine()
	a.w.Teeth, a.l = roomy(a.w.Teeth, 77), roomy(a.l, api.Pair{Driver: 7, Driven: 7})
	a.s.Stampers, a.set, a.water = roomy(a.s.Stampers, stamper(7, 7, 7)), roomy(a.set, 77), roomy(a.water, 77)
	a.p.Turns, a.p.Arrivals = roomy(a.p.Turns, 77), roomy(a.p.Arrivals, api.Arrival{Day: 77})
	a.p.Sales = roomy(a.p.Sales, api.Sale{Id: 77})
	return a
}

// wipe clears all lists that some things have.
func wipe(l []any) {
	for _, x := range l {
		switch y := x.(type) {
		case []int:
			clear(y)
		case []api.Pair:
			clear(y)
		case []api.Stamper:
			clear(y)
		case []api.Arrival:
			clear(y)
		case []api.Sale:
			clear(y)
		case api.Shaft:
			clear(full(y.Stampers))
		case api.Plan:
			wipe(planLists(y))
		}
	}
}

// TestMemory checks P1 (R3): arguments are left as they are, also behind their ends, calls do not depend on those before, and results are new memory.
func TestMemory(t *testing.T) {
	for _, f := range calls() {
		for _, still := range []bool{false, true} {
			a := roomyArgs()
			if still { // nothing is to be changed then
				a.by, a.water = 0, roomy(ints(100000, 100000, 100000), 77)
			}
			kept := fmt.Sprint(argLists(a))
			before, _ := f.run(a)
			text := fmt.Sprint(before)
			again, _ := f.run(a)
			if !reflect.DeepEqual(before, again) {
				t.Error(f.name, before, again)
			}
			if fmt.Sprint(argLists(a)) != kept {
				t.Error(f.name, "writes to its arguments")
			}
			wipe(argLists(a))
			wipe(again)
			if fmt.Sprint(before) != text {
				t.Error(f.name, "shares memory")
			}
		}
	}
}

// TestEmpty checks P1 (R4) and P10.2, P10.5 to P10.8: nil is as good as empty.
func TestEmpty(t *testing.T) {
	for _, w := range []api.Wheels{{}, {Teeth: []int{}}, wheels(20)} {
		if e := wheel.Check(w); e != api.OK {
			t.Error(w, e)
		}
		for pairs := 1; pairs <= 3; pairs++ {
			if n, e := wheel.Many(w, pairs); n != 0 || e != api.OK {
				t.Error(w, n, e)
			}
		}
	}
	for _, s := range []api.Shaft{shaft(1), shaft(12), {Marks: 7, Stampers: []api.Stamper{}}} {
		for _, set := range [][]int{nil, {}} {
			if l, e := wheel.Loads(s, set); !slices.Equal(l, make([]int, s.Marks)) || e != api.OK {
				t.Error(s, l, e)
			}
			if l, e := wheel.Turned(s, set, 3); len(l) > 0 || e != api.OK {
				t.Error(s, l, e)
			}
		}
		if l, n, e := wheel.Best(s); len(l) > 0 || n != 0 || e != api.OK {
			t.Error(s, l, n, e)
		}
		if l, n, e := wheel.Fewest(s); len(l) > 0 || n != 0 || e != api.OK {
			t.Error(s, l, n, e)
		}
		if n, e := wheel.Bound(s); n != 0 || e != api.OK {
			t.Error(s, n, e)
		}
	}
	for _, p := range []api.Plan{{Turns: ints(3)}, {Turns: ints(3), Arrivals: []api.Arrival{}, Sales: []api.Sale{}}} {
		if q, e := wheel.Paced(p, ints(2), wheels(20, 20), train(1, 2), 1); !samePlan(q, api.Plan{Turns: ints(2)}) || e != api.OK {
			t.Error(p, q, e)
		}
	}
}
