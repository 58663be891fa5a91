package can_test

import (
	"fmt"
	"math"
	"reflect"
	"slices"
	"testing"

	"oilcake/api"
	"oilcake/can"
)

// args are the arguments of all functions.
type args struct {
	c           api.Cans
	x           api.Pouring
	l           []api.Pouring
	pints, size int
	want, sizes []int
	log         api.Log
}

// fine are arguments with which no function returns an error.
func fine() args {
	return args{c: cans(17, ints(3, 5), ints(3, 0)), x: api.Pouring{To: 2}, l: pours(0, 2, 1, 0, 2, 1), pints: 4, size: 20, want: ints(-1, 4), sizes: ints(3, 5), log: tun()}
}

// fault is an error, and all that is done to arguments to lead to it.
type fault struct {
	e  api.Errno
	by []func(a *args)
}

// far are numbers that nothing allows.
func far() []int {
	return []int{-2, -3, math.MinInt, math.MinInt + 1, math.MaxInt, math.MaxInt - 1, math.MinInt32, math.MaxInt32, math.MaxUint32 + 1, math.MinInt / 2, math.MaxInt/2 + 1}
}

// each are changes of arguments by numbers that nothing allows, and by some more.
func each(set func(a *args, n int), more ...int) []func(a *args) {
	var by []func(a *args)
	for _, n := range append(far(), more...) {
		by = append(by, func(a *args) { set(a, n) })
	}
	return by
}

func badCans() fault {
	return fault{api.ErrCans, slices.Concat(
		each(func(a *args, n int) { a.c.Sizes[0] = n }, -1, 0, 1, 2, 21),
		each(func(a *args, n int) { a.c.Sizes[1] = n }, -1, 0, 21),
		each(func(a *args, n int) { a.c.In[0] = n }, -1, 4),
		each(func(a *args, n int) { a.c.In[1] = n }, -1, 6),
		each(func(a *args, n int) { a.c.Sizes[1], a.c.In[1] = n, n }, -1, 0, 21),
		each(func(a *args, n int) { a.c.Stock = n }, -1, 601),
		[]func(a *args){
			func(a *args) { a.c = api.Cans{} },
			func(a *args) { a.c = empty(20) },
			func(a *args) { a.c.Sizes = nil },
			func(a *args) { a.c.In = nil },
			func(a *args) { a.c.Sizes = ints(3) },
			func(a *args) { a.c.In = ints(3) },
			func(a *args) { a.c.Sizes = ints(3, 5, 5) },
			func(a *args) { a.c.In = ints(3, 0, 0) },
			func(a *args) { a.c = empty(20, 3, 5, 5, 5) },
			func(a *args) { a.c.Sizes = slices.Repeat(ints(3), 100000) },
			func(a *args) { a.c.In = make([]int, 100000) },
			func(a *args) { a.c = empty(20, slices.Repeat(ints(3), 100000)...) },
			func(a *args) { a.c = empty(20, math.MaxInt, math.MaxInt, math.MaxInt) },
		},
	)}
}

func badPouring() fault {
	return fault{api.ErrPouring, slices.Concat(
		each(func(a *args, n int) { a.x.From = n }, -1, 3, 4),
		each(func(a *args, n int) { a.x.To = n }, -1, 3, 4),
		each(func(a *args, n int) { a.x = api.Pouring{From: n, To: n} }, -1, 0, 1, 2, 3),
	)}
}

// noPouring is the fault of a pouring that is valid, but cannot be.
func noPouring() fault {
	return fault{api.ErrNone, []func(a *args){
		func(a *args) { a.x = pours(0, 1)[0] },
		func(a *args) { a.x = pours(2, 0)[0] },
		func(a *args) { a.x = pours(2, 1)[0] },
		func(a *args) { a.c.Stock = 0 },
		func(a *args) { a.c.Stock = 4 },
		func(a *args) { a.c.In, a.x = ints(3, 5), pours(1, 2)[0] },
		func(a *args) { a.c.Stock, a.x = 598, pours(1, 0)[0] },
		func(a *args) { a.c.Stock, a.x = 600, pours(1, 0)[0] },
	}}
}

// badList is the fault of a list with a pouring that is not valid, ahead of one that cannot be.
func badList() fault {
	return fault{api.ErrPouring, slices.Concat(
		each(func(a *args, n int) { a.l = append(pours(0, 2, n, 1), a.l...) }, -1, 1, 3),
		each(func(a *args, n int) { a.l = append(pours(1, n, 2, 1), a.l...) }, -1, 1, 3),
		[]func(a *args){func(a *args) { a.l = pours(0, 2, 1, 0, 0, 0, 2, 1, 2, 1, 2, 1) }},
	)}
}

// noList is the fault of a list with a pouring that cannot be, ahead of one that is not valid.
func noList() fault {
	return fault{api.ErrNone, []func(a *args){
		func(a *args) { a.l = pours(0, 1) },
		func(a *args) { a.l = pours(0, 2, 0, 2) },
		func(a *args) { a.l = pours(0, 2, 0, 2, 7, 7) },
		func(a *args) { a.l = append(a.l, pours(1, 2, 1, 2, 1, 2, 0, 0)...) },
		func(a *args) { a.c.Stock = 4 },
		func(a *args) { a.c.Stock, a.l = 598, pours(1, 0) },
		func(a *args) { a.l = slices.Repeat(pours(0, 2), 100000) },
	}}
}

func badPints(more ...int) fault {
	return fault{api.ErrArg, each(func(a *args, n int) { a.pints = n }, append(more, -1)...)}
}

func badWant() fault {
	return fault{api.ErrArg, slices.Concat(
		each(func(a *args, n int) { a.want = ints(n, 4) }, 4, 21),
		each(func(a *args, n int) { a.want = ints(3, n) }, 6, 21),
		[]func(a *args){
			func(a *args) { a.want = nil },
			func(a *args) { a.want = []int{} },
			func(a *args) { a.want = ints(1) },
			func(a *args) { a.want = ints(1, 5, 0) },
			func(a *args) { a.want = ints(-1, -1, -1) },
			func(a *args) { a.want = slices.Repeat(ints(-1), 100000) },
		},
	)}
}

// noPints is the fault of pints that cannot be measured: some, and those of cans and a tank that hold too little.
func noPints(l ...int) fault {
	f := fault{api.ErrNone, []func(a *args){func(a *args) { a.c, a.pints = empty(0, 3, 5), 4 }, func(a *args) { a.c, a.pints = empty(2, 3, 5), 8 }}}
	for _, n := range l {
		f.by = append(f.by, func(a *args) { a.pints = n })
	}
	return f
}

func noWant() fault {
	return fault{api.ErrNone, []func(a *args){
		func(a *args) { a.want = ints(1, 1) },
		func(a *args) { a.want = ints(2, 4) },
		func(a *args) { a.c.Stock, a.want = 0, ints(-1, 5) },
		func(a *args) { a.c.Stock, a.want = 1, ints(3, 3) },
	}}
}

// noHelp is the fault of cans that no other can helps.
func noHelp() fault {
	return fault{api.ErrNone, []func(a *args){
		func(a *args) { a.c, a.pints = empty(0, 3, 5), 4 },
		func(a *args) { a.c, a.pints = empty(2, 3, 5), 4 },
		func(a *args) { a.c, a.pints = cans(15, ints(3, 5), ints(3, 0)), 20 },
		func(a *args) { a.c, a.pints = cans(0, ints(20, 10), ints(7, 10)), 18 },
	}}
}

func fullCans() fault {
	return fault{api.ErrFull, []func(a *args){func(a *args) { a.c = empty(20, 3, 5, 1) }, func(a *args) { a.c = cans(20, ints(3, 5, 9), ints(1, 1, 9)) }}}
}

func badSize() fault {
	return fault{api.ErrArg, each(func(a *args, n int) { a.size = n }, -1, 0, 21)}
}

func badSizes() fault {
	return fault{api.ErrCans, slices.Concat(
		each(func(a *args, n int) { a.sizes[0] = n }, -1, 0, 21),
		each(func(a *args, n int) { a.sizes = ints(3, 5, n) }, -1, 0, 21),
		[]func(a *args){
			func(a *args) { a.sizes = nil },
			func(a *args) { a.sizes = []int{} },
			func(a *args) { a.sizes = ints(3, 5, 5, 5) },
			func(a *args) { a.sizes = slices.Repeat(ints(3), 100000) },
		},
	)}
}

func badTank() fault {
	return fault{api.ErrTank, slices.Concat(
		each(func(a *args, n int) { a.log.Tank.Leak = n }, -1, 51),
		each(func(a *args, n int) { a.log.Tank.Foot = n }, -1, 33),
		[]func(a *args){func(a *args) { a.log.Tank.Pints[0] = 1 }, func(a *args) { a.log = api.Log{} }},
	)}
}

func badLog() fault {
	return fault{api.ErrLog, slices.Concat(
		each(func(a *args, n int) { a.log.Start.Lo = n }, -1, 41),
		each(func(a *args, n int) { a.log.Entries[3].Day = n }, -1, 4),
		[]func(a *args){
			func(a *args) { a.log.Entries = append(a.log.Entries, slices.Repeat(a.log.Entries[3:], 9)...) },
			func(a *args) { a.log.Entries = append(a.log.Entries, api.Entry{}) },
		},
	)}
}

// noTruth is the fault of a log that is valid, but has no truth.
func noTruth() fault {
	return fault{api.ErrBad, []func(a *args){func(a *args) { a.log.Entries[1].Size = span(31, 32) }, func(a *args) { a.log.Start = span(0, 22) }}}
}

// fullLog is the fault of a log that has as many entries as it may, or nearly so.
func fullLog() fault {
	return fault{api.ErrFull, []func(a *args){
		func(a *args) { a.log.Entries = slices.Repeat([]api.Entry{entry(5, 2, 0, 0)}, 12) },
		func(a *args) { a.log.Entries, a.l = slices.Repeat([]api.Entry{entry(5, 2, 0, 0)}, 12), pours(1, 0) },
	}}
}

// fuller is the fault of a log that has not enough entries left.
func fuller() fault {
	return fault{api.ErrFull, []func(a *args){
		func(a *args) { a.log.Entries = slices.Repeat([]api.Entry{entry(5, 2, 0, 0)}, 11) },
		func(a *args) { a.l = slices.Repeat(pours(0, 2, 2, 0), 5) },
		func(a *args) { a.l = slices.Repeat(pours(0, 2, 2, 0), 20000) },
	}}
}

// badEntry is the fault of a tank that is not as large as what is poured.
func badEntry() fault {
	small := func(a *args, pints int) {
		a.log.Tank, a.log.Start, a.log.Entries = api.Tank{Pints: ints(0, pints)}, span(0, pints), nil
	}
	return fault{api.ErrEntry, []func(a *args){
		func(a *args) { small(a, 1) },
		func(a *args) { small(a, 4) },
		func(a *args) { small(a, 2); a.l = pours(1, 0) },
	}}
}

// call is a function with the faults that it names, in their order.
type call struct {
	name   string
	run    func(a args) ([]any, api.Errno)
	faults []fault
}

func one[T any](x T, e api.Errno) ([]any, api.Errno) { return []any{x}, e }

func two[T, U any](x T, y U, e api.Errno) ([]any, api.Errno) { return []any{x, y}, e }

// playing is what Play returns, but the index of an error.
func playing(a args) ([]any, api.Errno) {
	d, back, _, e := can.Play(a.c, a.l)
	return []any{d, back}, e
}

func calls() []call {
	written := func(a args) ([]any, api.Errno) { return one(can.Written(a.log, a.c, a.l)) }
	return []call{
		{"Check", func(a args) ([]any, api.Errno) { return nil, can.Check(a.c) }, []fault{badCans()}},
		{"Pour", func(a args) ([]any, api.Errno) { return one(can.Pour(a.c, a.x)) }, []fault{badCans(), badPouring(), noPouring()}},
		{"Play", playing, []fault{badCans(), badList()}},
		{"Play", playing, []fault{badCans(), noList()}},
		{"Before", func(a args) ([]any, api.Errno) { return one(can.Before(a.c, a.x)) }, []fault{badCans(), badPouring()}},
		{"Many", func(a args) ([]any, api.Errno) { return one(can.Many(a.c)) }, []fault{badCans()}},
		{"Made", func(a args) ([]any, api.Errno) { return one(can.Made(a.c)) }, []fault{badCans()}},
		{"Measure", func(a args) ([]any, api.Errno) { return one(can.Measure(a.c)) }, []fault{badCans()}},
		{"Least", func(a args) ([]any, api.Errno) { return two(can.Least(a.c, a.pints)) }, []fault{badCans(), badPints(21), noPints(6, 7, 20)}},
		{"Total", func(a args) ([]any, api.Errno) { return two(can.Total(a.c, a.pints)) }, []fault{badCans(), badPints(9, 20, 21), noPints()}},
		{"Both", func(a args) ([]any, api.Errno) { return two(can.Both(a.c, a.want)) }, []fault{badCans(), badWant(), noWant()}},
		{"Far", func(a args) ([]any, api.Errno) { return two(can.Far(a.c)) }, []fault{badCans()}},
		{"Help", func(a args) ([]any, api.Errno) { return two(can.Help(a.c, a.pints)) }, []fault{badCans(), badPints(21), fullCans(), noHelp()}},
		{"Add", func(a args) ([]any, api.Errno) { return one(can.Add(a.c, a.size)) }, []fault{badCans(), fullCans(), badSize()}},
		{"Begin", func(a args) ([]any, api.Errno) { return one(can.Begin(a.log, a.sizes)) }, []fault{badTank(), badLog(), noTruth(), badSizes()}},
		{"Written", written, []fault{badTank(), badLog(), badCans(), badList(), fullLog(), badEntry()}},
		{"Written", written, []fault{badTank(), badLog(), badCans(), noList(), fullLog(), badEntry()}},
		{"Written", written, []fault{badTank(), badLog(), badCans(), noList(), fuller()}},
	}
}

func zero(l []any) bool {
	for _, x := range l {
		v := reflect.ValueOf(x)
		if !v.IsZero() && !(v.Kind() == reflect.Slice && v.Len() == 0) {
			return false
		}
	}
	return true
}

// spoil does something to arguments that leads to a fault. What was spoilt before can have nothing left to spoil.
func spoil(a *args, f fault, k int) {
	switch f.e {
	case api.ErrTank, api.ErrLog, api.ErrBad:
		a.log = fine().log
	case api.ErrCans:
		a.c, a.sizes = fine().c, fine().sizes
	case api.ErrPouring:
		a.c, a.l = fine().c, fine().l
	}
	f.by[k%len(f.by)](a)
}

// spoilt are arguments with a fault of a call, and with some of those behind it. These come first: what is checked first counts.
func spoilt(f call, i, k, more int) args {
	a := fine()
	for j := len(f.faults) - 1; j > i; j-- {
		if more>>(j-i-1)&1 == 1 {
			spoil(&a, f.faults[j], k)
		}
	}
	spoil(&a, f.faults[i], k)
	return a
}

// TestErrors checks P8.1 and P1 (R1, R2, R5, R6, R7), and the errors of P8.2 to P8.7: each fault leads to its error, whatever other faults come behind it, and all results are zero values then.
func TestErrors(t *testing.T) {
	for _, f := range calls() {
		if _, e := f.run(fine()); e != api.OK {
			t.Errorf("%s: %d without a fault", f.name, e)
		}
		for i, x := range f.faults {
			for k := range x.by {
				for more := range 1 << (len(f.faults) - i - 1) {
					a := spoilt(f, i, k, more)
					if l, e := f.run(a); e != x.e || !zero(l) {
						t.Errorf("%s, fault %d.%d (%b): %d, want %d, results %v", f.name, i, k, more, e, x.e, l)
					}
				}
			}
		}
	}
}

// TestCansValid checks P8.1 and R6: cans at the ends of what is allowed are valid, those behind them not.
func TestCansValid(t *testing.T) {
	for _, c := range []api.Cans{
		empty(0, 1), empty(600, 20), cans(600, ints(20), ints(20)), cans(0, ints(1, 1, 1), ints(1, 0, 1)), example(), empty(20, 5, 5, 5), cans(600, ints(20, 20, 20), ints(20, 20, 20)), cans(7, ints(20, 1, 9), ints(19, 1, 0)),
	} {
		if e := can.Check(c); e != api.OK {
			t.Error(c, e)
		}
	}
	for _, c := range []api.Cans{
		{}, {Stock: 20}, {Sizes: []int{}, In: []int{}}, empty(20), empty(20, 1, 1, 1, 1), empty(-1, 3), empty(601, 3), empty(20, 0), empty(20, 21), empty(20, -1), empty(20, 3, 0), empty(20, 3, 3, 21),
		cans(20, ints(3), ints(4)), cans(20, ints(3), ints(-1)), cans(20, ints(3, 5), ints(0)), cans(20, ints(3), ints(0, 0)), cans(20, ints(3, 5), ints(4, 0)), cans(20, ints(5, 3), ints(0, 4)), cans(20, ints(3), nil), cans(20, nil, ints(0)),
	} {
		if e := can.Check(c); e != api.ErrCans {
			t.Error(c, e)
		}
	}
}

// TestPouringValid checks P8.1, P8.2 and R6: of all pairs of numbers just those of two different cans, or of a can and the tank, are pourings.
func TestPouringValid(t *testing.T) {
	for n := 1; n <= 3; n++ {
		c := cans(300, ints(8, 9, 10)[:n], ints(4, 5, 6)[:n]) // all pourings can be
		for from := -2; from < 6; from++ {
			for to := -2; to < 6; to++ {
				x := api.Pouring{From: from, To: to}
				want := api.ErrPouring
				if slices.Contains(every(n), x) {
					want = api.OK
				}
				_, e := can.Pour(c, x)
				_, _, _, f := can.Play(c, []api.Pouring{x})
				_, g := can.Before(c, x)
				_, h := can.Written(tun(), c, []api.Pouring{x})
				if e != want || f != want || g != want || h != want {
					t.Error(n, x, e, f, g, h)
				}
			}
		}
	}
}

// roomy is a list with room behind its end, in which something else lies.
func roomy[T any](l []T, other T) []T {
	k := append(slices.Clone(l), other, other)
	return k[:len(l)]
}

// lists are the arguments' lists, with what is behind their ends.
func lists(a args) []any {
	return []any{a.c.Sizes[:cap(a.c.Sizes)], a.c.In[:cap(a.c.In)], a.l[:cap(a.l)], a.want[:cap(a.want)], a.sizes[:cap(a.sizes)], a.log.Tank.Pints[:cap(a.log.Tank.Pints)], a.log.Entries[:cap(a.log.Entries)]}
}

func roomyArgs() args {
	a := fine()
	a.c.Sizes, a.c.In, a.l, a.want, a.sizes = roomy(a.c.Sizes, 77), roomy(a.c.In, 77), roomy(a.l, pours(7, 7)[0]), roomy(a.want, 77), roomy(a.sizes, 77)
	a.log.Tank.Pints, a.log.Entries = roomy(a.log.Tank.Pints, 77), roomy(a.log.Entries, entry(77, 7, 7, 7))
	return a
}

// wipe clears all lists that some things have.
func wipe(l []any) {
	for _, x := range l {
		switch y := x.(type) {
		case []int:
			clear(y)
		case []api.Pouring:
			clear(y)
		case []api.Entry:
			clear(y)
		case api.Cans:
			wipe([]any{y.Sizes, y.In})
		case []api.Cans:
			for _, z := range y {
				wipe([]any{z})
			}
		case api.Log:
			wipe([]any{y.Tank.Pints, y.Entries})
		}
	}
}

// TestMemory checks P1 (R3): arguments are left as they are, also behind their ends, calls do not depend on those before, and results are new memory.
func TestMemory(t *testing.T) {
	for _, f := range calls() {
		for _, none := range []bool{false, true} {
			a := roomyArgs()
			if none {
				a.l = nil
			}
			kept := fmt.Sprint(lists(a))
			before, _ := f.run(a)
			text := fmt.Sprint(before)
			again, _ := f.run(a)
			if !reflect.DeepEqual(before, again) {
				t.Error(f.name, before, again)
			}
			if fmt.Sprint(lists(a)) != kept {
				t.Error(f.name, "writes to its arguments")
			}
			wipe(lists(a))
			wipe(again)
			if fmt.Sprint(before) != text {
				t.Error(f.name, "shares memory")
			}
		}
	}
}

// TestApart checks P1 (R3): lists of one result share no memory, also behind their ends.
func TestApart(t *testing.T) {
	before, _ := can.Before(cans(17, ints(3, 5), ints(3, 0)), api.Pouring{To: 1})
	after, _ := can.Pour(fine().c, fine().x)
	more, _ := can.Add(fine().c, 9)
	begun, _ := can.Begin(tun(), ints(3, 5))
	if len(before) != 3 {
		t.Fatal(before)
	}
	all := append(before, after, more, begun)
	var l [][]int
	for _, c := range all {
		l = append(l, c.Sizes, c.In)
	}
	text := fmt.Sprint(l)
	for i, x := range l {
		kept := slices.Clone(x)
		full := x[:cap(x)]
		for k := range full {
			full[k] = -1
		}
		copy(x, kept)
		if fmt.Sprint(l) != text {
			t.Fatal(i, l, text)
		}
	}
}

// TestEmpty checks P1 (R4) and P8.1: nil is as good as empty; nothing is poured by no pourings, and nothing has to be if all is as it should be.
func TestEmpty(t *testing.T) {
	for _, l := range [][]api.Pouring{nil, {}} {
		d, back, at, e := can.Play(fine().c, l)
		if !same(d, fine().c) || back != 0 || at != 0 || e != api.OK {
			t.Error(d, back, at, e)
		}
		for _, entries := range [][]api.Entry{nil, {}, tun().Entries} {
			k := tun()
			k.Entries = entries
			if got, e := can.Written(k, fine().c, l); !sameLog(got, k) || e != api.OK {
				t.Error(got, e)
			}
		}
	}
	c := cans(17, ints(3, 5), ints(3, 0))
	for _, run := range []func() ([]api.Pouring, int, api.Errno){
		func() ([]api.Pouring, int, api.Errno) { return can.Least(c, 3) },
		func() ([]api.Pouring, int, api.Errno) { return can.Least(c, 0) },
		func() ([]api.Pouring, int, api.Errno) { return can.Total(c, 3) },
		func() ([]api.Pouring, int, api.Errno) { return can.Both(c, ints(3, 0)) },
		func() ([]api.Pouring, int, api.Errno) { return can.Both(c, ints(-1, 0)) },
		func() ([]api.Pouring, int, api.Errno) { return can.Both(c, ints(3, -1)) },
		func() ([]api.Pouring, int, api.Errno) { return can.Both(c, ints(-1, -1)) },
	} {
		if l, back, e := run(); len(l) > 0 || back != 0 || e != api.OK {
			t.Error(l, back, e)
		}
	}
}
