package tank_test

import (
	"fmt"
	"math"
	"reflect"
	"slices"
	"testing"

	"oilcake/api"
	"oilcake/tank"
)

// args are the arguments of all functions; the tank is that of the log.
type args struct {
	l                 api.Log
	eighth, pints, at int
	dip               api.Span
	x                 api.Entry
	times             []int
}

// fine are arguments with which no function returns an error.
func fine() args {
	return args{l: example(), eighth: 12, pints: 38, at: 1, dip: span(9, 12), x: entry(7, 1, 0, 5), times: []int{2, 4}}
}

// fault is an error, and all that is done to arguments to lead to it.
type fault struct {
	e  api.Errno
	by []func(a *args)
}

// far are numbers that nothing allows.
func far() []int {
	return []int{-1, -2, math.MinInt, math.MinInt + 1, math.MaxInt, math.MaxInt - 1, math.MinInt32, math.MaxInt32, math.MaxUint32 + 1, math.MinInt / 2, math.MaxInt/2 + 1}
}

// above are those of them that are too great.
func above() []int { return slices.DeleteFunc(far(), func(n int) bool { return n < 0 }) }

// each are changes of arguments by numbers that nothing allows, and by some more.
func each(set func(a *args, n int), more ...int) []func(a *args) {
	return with(set, append(far(), more...)...)
}

// with are changes of arguments by some numbers.
func with(set func(a *args, n int), l ...int) []func(a *args) {
	var by []func(a *args)
	for _, n := range l {
		by = append(by, func(a *args) { set(a, n) })
	}
	return by
}

func badTank() fault {
	return fault{api.ErrTank, slices.Concat(
		each(func(a *args, n int) { a.l.Tank.Pints[0] = n }, 1, 10),
		each(func(a *args, n int) { a.l.Tank.Pints[2] = n }, 0, 10, 60, 61),
		each(func(a *args, n int) { a.l.Tank.Pints[4] = n }, 0, 60, 601),
		each(func(a *args, n int) { a.l.Tank.Leak = n }, 51),
		each(func(a *args, n int) { a.l.Tank.Foot = n }, 33),
		with(func(a *args, n int) { a.l.Tank.Pints = make([]int, n) }, 0, 1, 2, 21, 22, 100000),
		with(func(a *args, n int) { a.l.Tank.Pints = steps(0, 0, slices.Repeat([]int{1}, n)...).Pints }, 0, 21, 100),
		[]func(a *args){
			func(a *args) { a.l.Tank.Pints = nil },
			func(a *args) { a.l.Tank = api.Tank{} },
			func(a *args) { slices.Reverse(a.l.Tank.Pints) },
			func(a *args) { a.l.Tank.Pints, a.l.Tank.Foot = a.l.Tank.Pints[:2], 9 },
		},
	)}
}

func badLog() fault {
	return fault{api.ErrLog, slices.Concat(
		each(func(a *args, n int) { a.l.Start.Lo = n }, 41, 101),
		each(func(a *args, n int) { a.l.Start.Hi = n }, 19, 101),
		each(func(a *args, n int) { a.l.Start = span(n, n) }, 101),
		each(func(a *args, n int) { a.l.Entries[0].Day = n }, 4, 3653),
		each(func(a *args, n int) { a.l.Entries[3].Day = n }, 0, 4, 3653),
		each(func(a *args, n int) { a.l.Entries[1].Kind = n }, 0, 4),
		each(func(a *args, n int) { a.l.Entries[0].Size.Lo = n }, 16),
		each(func(a *args, n int) { a.l.Entries[2].Size.Hi = n }, 9, 101),
		each(func(a *args, n int) { a.l.Entries[0].Size = span(n, n) }, 101),
		each(func(a *args, n int) { a.l.Entries[1].Size = span(n, n) }, 33, 100),
		with(func(a *args, n int) { a.l.Entries = append(a.l.Entries, slices.Repeat(a.l.Entries[3:4], n)...) }, 9, 100000),
		with(func(a *args, n int) { a.l.Entries = append(a.l.Entries, make([]api.Entry, n)...) }, 1, 8),
	)}
}

// noTruth is the fault of entries that cannot all be true.
func noTruth() fault {
	return fault{api.ErrBad, []func(a *args){
		func(a *args) { a.l.Entries[1].Size = span(9, 9) },
		func(a *args) { a.l.Entries[1].Size = span(31, 32) },
		func(a *args) { a.l.Entries[2].Size = span(60, 100) },
		func(a *args) { a.l.Entries[0].Size = span(81, 100) },
		func(a *args) { a.l.Entries[3].Size = span(19, 32) },
		func(a *args) { a.l.Start = span(0, 22) },
	}}
}

func badPints(l []int) fault {
	return fault{api.ErrArg, with(func(a *args, n int) { a.pints = n }, l...)}
}

// noTime is the fault of pints that the tank does not hold for sure at any time; also of those that it has no room for.
func noTime() fault {
	return fault{api.ErrNone, with(func(a *args, n int) { a.pints = n }, append(above(), 39, 51, 100, 101)...)}
}

// below are those numbers that are too little.
func below() []int { return slices.DeleteFunc(far(), func(n int) bool { return n > 0 }) }

func badTime(more ...int) fault {
	return fault{api.ErrArg, each(func(a *args, n int) { a.at = n }, more...)}
}

func badEighth() fault {
	return fault{api.ErrArg, each(func(a *args, n int) { a.eighth = n }, 33, 100)}
}

func badDip() fault {
	return fault{api.ErrArg, slices.Concat(
		each(func(a *args, n int) { a.dip = span(n, 12) }, 13, 33),
		each(func(a *args, n int) { a.dip = span(9, n) }, 8, 33),
		each(func(a *args, n int) { a.dip = span(n, n) }, 33),
	)}
}

func noPints() fault {
	return fault{api.ErrNone, with(func(a *args, n int) { a.dip = span(n, n) }, 9, 11, 17, 22)}
}

// sameAlways is the fault of a tank that holds the same at the end in each truth.
func sameAlways() fault {
	return fault{api.ErrNone, with(func(a *args, n int) { a.l.Entries[3].Size = span(n, n) }, 12, 14, 16)}
}

// noDips is the fault of a log that has no truth without dips either.
func noDips() fault {
	return fault{api.ErrNone, []func(a *args){
		func(a *args) { a.l.Entries[2].Size = span(56, 100) },
		func(a *args) { a.l.Entries[0].Size = span(81, 100) },
	}}
}

func full() fault {
	return fault{api.ErrFull, []func(a *args){func(a *args) {
		a.l.Entries = append(a.l.Entries, slices.Repeat([]api.Entry{entry(5, 2, 0, 0)}, 8)...)
	}}}
}

func badEntry() fault {
	return fault{api.ErrEntry, slices.Concat(
		each(func(a *args, n int) { a.x.Day = n }, 0, 4, 3653),
		each(func(a *args, n int) { a.x.Kind = n }, 0, 4),
		each(func(a *args, n int) { a.x.Size.Lo = n }, 6),
		each(func(a *args, n int) { a.x.Size.Hi = n }, 101),
		each(func(a *args, n int) { a.x.Kind, a.x.Size = 3, span(n, n) }, 33, 100),
	)}
}

func badTimes() fault {
	return fault{api.ErrEntry, slices.Concat(
		each(func(a *args, n int) { a.times = []int{n} }, 0, 5),
		each(func(a *args, n int) { a.times = []int{1, n} }, 0, 1, 5),
		each(func(a *args, n int) { a.times = []int{n, 3} }, 0, 3, 4, 5),
		with(func(a *args, n int) { a.times = make([]int, n) }, 1, 4, 100000),
		each(func(a *args, n int) { a.times = []int{1, 2, 3, 4, n} }, 4, 5),
	)}
}

// call is a function with the faults that it names, in their order.
type call struct {
	name   string
	run    func(a args) ([]any, api.Errno)
	faults []fault
}

func one[T any](x T, e api.Errno) ([]any, api.Errno) { return []any{x}, e }

func calls() []call {
	outside := append(far(), 101, 102, 601)
	log := []fault{badTank(), badLog()}
	truth := func(more ...fault) []fault { return slices.Concat(log, []fault{noTruth()}, more) }
	return []call{
		{"Check", func(a args) ([]any, api.Errno) { return nil, tank.Check(a.l.Tank) }, []fault{badTank()}},
		{"Volume", func(a args) ([]any, api.Errno) { return one(tank.Volume(a.l.Tank, a.eighth)) }, []fault{badTank(), badEighth()}},
		{"Eighth", func(a args) ([]any, api.Errno) { return one(tank.Eighth(a.l.Tank, a.pints)) }, []fault{badTank(), badPints(outside)}},
		{"Range", func(a args) ([]any, api.Errno) { return one(tank.Range(a.l.Tank, a.dip)) }, []fault{badTank(), badDip(), noPints()}},
		{"Valid", func(a args) ([]any, api.Errno) { return nil, tank.Valid(a.l) }, log},
		{"Truth", func(a args) ([]any, api.Errno) { return one(tank.Truth(a.l)) }, truth()},
		{"Holds", func(a args) ([]any, api.Errno) { return one(tank.Holds(a.l, a.at)) }, truth(badTime(5, 6, 12))},
		{"Moved", func(a args) ([]any, api.Errno) { return one(tank.Moved(a.l, a.at)) }, truth(badTime(0, 2, 4, 5, 12))},
		{"Lost", func(a args) ([]any, api.Errno) { return one(tank.Lost(a.l, a.at)) }, truth(badTime(0, 4, 5, 12))},
		{"Leaked", func(a args) ([]any, api.Errno) { return one(tank.Leaked(a.l)) }, truth()},
		{"Sure", func(a args) ([]any, api.Errno) { return one(tank.Sure(a.l, a.pints)) }, truth(badPints(outside))},
		{"When", func(a args) ([]any, api.Errno) { return one(tank.When(a.l, a.pints)) }, truth(noTime(), badPints(below()))},
		{"Ready", func(a args) ([]any, api.Errno) { return one(tank.Ready(a.l)) }, truth()},
		{"Room", func(a args) ([]any, api.Errno) { return one(tank.Room(a.l)) }, truth()},
		{"Ask", func(a args) ([]any, api.Errno) {
			eighth, left, e := tank.Ask(a.l)
			return []any{eighth, left}, e
		}, truth(sameAlways())},
		{"Wrong", func(a args) ([]any, api.Errno) { return one(tank.Wrong(a.l)) }, append(log[:2:2], noDips())},
		{"Add", func(a args) ([]any, api.Errno) { return one(tank.Add(a.l, a.x)) }, append(log[:2:2], full(), badEntry())},
		{"Strike", func(a args) ([]any, api.Errno) { return one(tank.Strike(a.l, a.times)) }, append(log[:2:2], badTimes())},
	}
}

func zero(l []any) bool {
	for _, x := range l {
		v := reflect.ValueOf(x)
		if !v.IsZero() && !(v.Kind() == reflect.Slice && v.Len() == 0) {
			return false
		}
	}
	return true
}

// TestErrors checks P3.1 and P1 (R1, R2, R5, R6, R7), and the errors of P3.2 to P3.8: each fault leads to its error, whatever other faults come behind it, and all results are zero values then.
func TestErrors(t *testing.T) {
	for _, f := range calls() {
		if _, e := f.run(fine()); e != api.OK {
			t.Errorf("%s: %d without a fault", f.name, e)
		}
		for i, x := range f.faults {
			for k, by := range x.by {
				for more := range 1 << (len(f.faults) - i - 1) {
					a := fine()
					for j := len(f.faults) - 1; j > i; j-- { // what is checked later is spoilt first: what is checked first counts
						if more>>(j-i-1)&1 == 1 {
							behind := f.faults[j].by
							behind[k%len(behind)](&a)
						}
					}
					if x.e == api.ErrLog || x.e == api.ErrBad { // a log that was spoilt behind can have nothing more to spoil
						a.l = fine().l
					}
					by(&a)
					if l, e := f.run(a); e != x.e || !zero(l) {
						t.Errorf("%s, fault %d.%d (%b): %d, want %d, results %v", f.name, i, k, more, e, x.e, l)
					}
				}
			}
		}
	}
}

// TestTankValid checks P3.1 and R6: tanks at the ends of what is allowed are valid, those behind them not.
func TestTankValid(t *testing.T) {
	for n := range 30 {
		for _, most := range []int{1, 30} {
			x := steps(50, 8*n, slices.Repeat([]int{most}, n)...)
			want := api.ErrTank
			if n >= 1 && n <= 20 {
				want = api.OK
			}
			if e := tank.Check(x); e != want {
				t.Error(x, e)
			}
			x.Foot++
			if e := tank.Check(x); e != api.ErrTank {
				t.Error(x, e)
			}
		}
	}
	for _, x := range []api.Tank{steps(0, 0, 600), steps(50, 8, 1), steps(0, 16, 1, 599), table()} {
		if e := tank.Check(x); e != api.OK {
			t.Error(x, e)
		}
	}
	for _, x := range []api.Tank{{}, steps(0, 0), steps(0, 0, 601), steps(0, 0, 1, 600), steps(0, 0, 5, 0), steps(0, 0, 5, -1), steps(51, 0, 5), steps(-1, 0, 5), steps(0, -1, 5), steps(0, 9, 5), {Pints: []int{1, 5}}, {Pints: []int{-1, 5}}} {
		if e := tank.Check(x); e != api.ErrTank {
			t.Error(x, e)
		}
	}
}

// TestLogValid checks P3.1 and R6: logs at the ends of what is allowed are valid, also those without a truth.
func TestLogValid(t *testing.T) {
	log := func(start api.Span, l ...api.Entry) api.Log {
		return api.Log{Tank: table(), Start: start, Entries: l}
	}
	for _, l := range []api.Log{
		log(span(0, 0)), log(span(0, 100)), log(span(100, 100)), example(), example(entry(5, 3, 20, 24)),
		log(span(3, 3), entry(0, 1, 0, 0), entry(0, 2, 100, 100), entry(3652, 3, 0, 32), entry(3652, 3, 32, 32), entry(3652, 1, 0, 100)),
		log(span(3, 3), slices.Repeat([]api.Entry{entry(3652, 3, 9, 9)}, 12)...),
	} {
		if e := tank.Valid(l); e != api.OK {
			t.Error(l, e)
		}
	}
	for _, l := range []api.Log{
		log(span(1, 0)), log(span(0, 101)), log(span(-1, 0)), log(span(101, 101)),
		log(span(0, 0), entry(-1, 1, 0, 0)), log(span(0, 0), entry(3653, 1, 0, 0)), log(span(0, 0), entry(1, 1, 0, 0), entry(0, 1, 0, 0)),
		log(span(0, 0), entry(0, 0, 0, 0)), log(span(0, 0), entry(0, 4, 0, 0)), log(span(0, 0), api.Entry{}),
		log(span(0, 0), entry(0, 1, 1, 0)), log(span(0, 0), entry(0, 2, 0, 101)), log(span(0, 0), entry(0, 3, 0, 33)), log(span(0, 0), entry(0, 3, -1, 0)), log(span(0, 0), entry(0, 3, 9, 8)),
		log(span(0, 0), slices.Repeat([]api.Entry{entry(0, 3, 0, 0)}, 13)...),
	} {
		if e := tank.Valid(l); e != api.ErrLog {
			t.Error(l, e)
		}
		l.Tank.Leak = 51
		if e := tank.Valid(l); e != api.ErrTank {
			t.Error(l, e)
		}
	}
	if e := tank.Valid(api.Log{}); e != api.ErrTank {
		t.Error(e)
	}
}

// roomy is a list with room behind its end, in which something else lies.
func roomy[T any](l []T, other T) []T {
	k := append(slices.Clone(l), other, other)
	return k[:len(l)]
}

// TestMemory checks P1 (R3, R4): arguments are left as they are, also behind their ends, calls do not depend on those before, results are new memory, nil is as good as empty.
func TestMemory(t *testing.T) {
	for _, f := range calls() {
		a := fine()
		a.l.Tank.Pints, a.l.Entries, a.times = roomy(a.l.Tank.Pints, 77), roomy(a.l.Entries, entry(77, 7, 7, 7)), roomy(a.times, 77)
		pints, entries, times := a.l.Tank.Pints[:7], a.l.Entries[:6], a.times[:4]
		keptPints, keptEntries, keptTimes := slices.Clone(pints), slices.Clone(entries), slices.Clone(times)
		before, _ := f.run(a)
		text := fmt.Sprint(before)
		again, _ := f.run(a)
		if !reflect.DeepEqual(before, again) {
			t.Error(f.name, before, again)
		}
		if !slices.Equal(pints, keptPints) || !slices.Equal(entries, keptEntries) || !slices.Equal(times, keptTimes) {
			t.Error(f.name, "writes to its arguments")
		}
		clear(pints)
		clear(entries)
		clear(times)
		wipe(again)
		if fmt.Sprint(before) != text {
			t.Error(f.name, "shares memory")
		}
	}
	for _, entries := range [][]api.Entry{nil, {}} {
		for _, times := range [][]int{nil, {}} {
			for _, f := range calls() {
				a := fine()
				a.l.Entries, a.at, a.pints, a.times = entries, 0, 20, times
				want := map[string]api.Errno{"Moved": api.ErrArg, "Lost": api.ErrArg}[f.name]
				if _, e := f.run(a); e != want {
					t.Error(f.name, e, want)
				}
			}
		}
	}
}

// wipe clears all lists of results.
func wipe(l []any) {
	for _, x := range l {
		switch y := x.(type) {
		case []int:
			clear(y)
		case api.Log:
			clear(y.Tank.Pints)
			clear(y.Entries)
		}
	}
}
