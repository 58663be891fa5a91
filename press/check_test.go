package press_test

import (
	"fmt"
	"math"
	"reflect"
	"slices"
	"testing"

	"oilcake/api"
	"oilcake/press"
)

// args are the arguments of all functions.
type args struct {
	p                  api.Press
	pressing, kind, to int
	x                  api.Weighing
	l                  []int
	q                  api.Part
	t                  []api.Weighed
}

// fine are arguments with which no function returns an error.
func fine() args {
	p := lead([]int{3, 3, 4, 0}, note(5, 1, 1, 10, 20), note(6, 1, 2, 0, 9), note(8, 2, 1, 7, 7), note(9, 4, 3, 0, 1000000))
	return args{p: p, pressing: 3, kind: 5, to: 4, x: note(7, 3, 6, 1, 8), l: []int{5, 8}, q: part(2, 4)}
}

// fault is an error, and all that is done to arguments to lead to it.
type fault struct {
	e  api.Errno
	by []func(a *args)
}

// far are numbers that nothing allows.
func far() []int {
	return []int{-1, -2, math.MinInt, math.MinInt + 1, math.MaxInt, math.MaxInt - 1, math.MinInt32, math.MaxInt32, math.MaxUint32 + 1, math.MinInt / 2, math.MaxInt/2 + 1}
}

// each are changes of arguments by numbers that nothing allows, and by some more.
func each(set func(a *args, n int), more ...int) []func(a *args) {
	var l []func(a *args)
	for _, n := range append(far(), more...) {
		l = append(l, func(a *args) { set(a, n) })
	}
	return l
}

func badPressing() []func(a *args) {
	return slices.Concat(
		each(func(a *args, n int) { a.p.Pressings[0].Id = n }, 0, 2, 3, 10000),
		each(func(a *args, n int) { a.p.Pressings[3].Id = n }, 0, 2, 3, 10000),
		each(func(a *args, n int) { a.p.Pressings[3].Day = n }, 0, 3653),
		each(func(a *args, n int) { a.p.Pressings[0].Day = n }, 1, 3653),
		each(func(a *args, n int) { a.p.Pressings[1].Press = n }, 0, 7),
		each(func(a *args, n int) { a.p.Pressings[1].To = n }, 1, 2, 5),
		each(func(a *args, n int) { a.p.Pressings[3].To = n }, 1, 2, 3, 4, 5),
		each(func(a *args, n int) { a.p.Pressings = append(a.p.Pressings, make([]api.Pressing, 7)...) }),
		each(func(a *args, n int) { a.p.Pressings = make([]api.Pressing, 100000) }),
		[]func(a *args){
			func(a *args) { a.p = lead(make([]int, 11)) },
			func(a *args) { a.p = lead(make([]int, 4)[:3], a.p.Weighings...) },
			func(a *args) { slices.Reverse(a.p.Pressings) },
		},
	)
}

func badWeighing() []func(a *args) {
	return slices.Concat(
		each(func(a *args, n int) { a.p.Weighings[0].Number = n }, 0, 6, 7, 10000),
		each(func(a *args, n int) { a.p.Weighings[3].Number = n }, 0, 7, 8, 10000),
		each(func(a *args, n int) { a.p.Weighings[1].Pressing = n }, 0, 5),
		each(func(a *args, n int) { a.p.Weighings[1].Kind = n }, 0, 7),
		each(func(a *args, n int) { a.p.Weighings[0].Ounces.Lo = n }, 21),
		each(func(a *args, n int) { a.p.Weighings[0].Ounces.Hi = n }, 9, 1000001),
		each(func(a *args, n int) { a.p.Weighings[0].Ounces = span(n, n) }, 1000001),
		each(func(a *args, n int) { a.p.Weighings = append(a.p.Weighings, make([]api.Weighing, 27)...) }),
		each(func(a *args, n int) { a.p.Weighings = make([]api.Weighing, 100000) }),
		[]func(a *args){
			func(a *args) { a.p.Weighings = many(31) },
			func(a *args) { slices.Reverse(a.p.Weighings) },
		},
	)
}

// many are so many weighings with the Numbers 101, 102 and so on.
func many(n int) []api.Weighing {
	var l []api.Weighing
	for i := range n {
		l = append(l, note(101+i, i%4+1, i%6+1, 0, 1000))
	}
	return l
}

func badPress() fault { return fault{api.ErrPress, slices.Concat(badPressing(), badWeighing())} }

func noPressing() fault {
	return fault{api.ErrNone, each(func(a *args, n int) { a.pressing = n }, 0, 5, 9999)}
}

func badKind(more ...int) fault {
	return fault{api.ErrArg, each(func(a *args, n int) { a.kind = n }, append(more, 0, 7)...)}
}

func badPart() fault {
	return fault{api.ErrArg, slices.Concat(
		each(func(a *args, n int) { a.q = part(n, 4) }, 5),
		each(func(a *args, n int) { a.q = part(0, n) }, 0, 1001),
		each(func(a *args, n int) { a.q = part(n, n) }, 0, 1001),
	)}
}

// noTruth is the fault of weighings that cannot all be true.
func noTruth() fault {
	return fault{api.ErrBad, []func(a *args){
		func(a *args) { a.p.Weighings[1].Ounces = span(21, 1000000); a.p.Weighings[1].Kind = api.WeighParings },
		func(a *args) { a.p.Weighings[3].Kind = api.WeighParings; a.p.Weighings[3].Ounces.Lo = 1 },
		func(a *args) { a.p.Weighings[1] = note(6, 1, 1, 21, 30) },
	}}
}

func contradiction() fault { return fault{api.ErrBad, noTruth().by[1:]} }

func onlyGone() fault {
	return fault{api.ErrNone, []func(a *args){func(a *args) {
		a.p.Weighings = append(a.p.Weighings, note(20, 3, 1, 0, 0), note(21, 1, 6, 0, 0), note(22, 2, 6, 0, 0))
	}}}
}

func tooMany() fault {
	return fault{api.ErrMany, []func(a *args){func(a *args) {
		a.p = lead([]int{0, 0, 0, 0}, note(1, 1, 6, 1, 1), note(2, 2, 6, 1, 1), note(3, 3, 6, 1, 1), note(4, 4, 6, 1, 1))
	}}}
}

func full() fault {
	return fault{api.ErrFull, []func(a *args){func(a *args) { a.p.Weighings = many(30) }}}
}

func badNote() fault {
	return fault{api.ErrWeighing, slices.Concat(
		each(func(a *args, n int) { a.x.Number = n }, 0, 5, 6, 8, 9, 10000),
		each(func(a *args, n int) { a.x.Pressing = n }, 0, 5),
		each(func(a *args, n int) { a.x.Kind = n }, 0, 7),
		each(func(a *args, n int) { a.x.Ounces.Lo = n }, 9),
		each(func(a *args, n int) { a.x.Ounces.Hi = n }, 0, 1000001),
		each(func(a *args, n int) { a.x.Ounces = span(n, n) }, 1000001),
	)}
}

func badNumbers() fault {
	return fault{api.ErrWeighing, slices.Concat(
		each(func(a *args, n int) { a.l = []int{n} }, 0, 7, 10),
		each(func(a *args, n int) { a.l = []int{n, 6} }, 6, 7, 8),
		each(func(a *args, n int) { a.l = []int{5, 6, n} }, 5, 6, 7, 10),
		each(func(a *args, n int) { a.l = make([]int, 100000) }),
		each(func(a *args, n int) { a.l = []int{5, 6, 8, 9, n} }, 9),
	)}
}

func badLead() fault {
	return fault{api.ErrLead, each(func(a *args, n int) { a.to = n }, 1, 2, 3, 5)}
}

// call is a function with the faults that it names, in their order.
type call struct {
	name   string
	run    func(a args) ([]any, api.Errno)
	faults []fault
}

func one[T any](x T, e api.Errno) ([]any, api.Errno) { return []any{x}, e }

func calls() []call {
	return []call{
		{"Check", func(a args) ([]any, api.Errno) { return nil, press.Check(a.p) }, []fault{badPress()}},
		{"Holds", func(a args) ([]any, api.Errno) { return one(press.Holds(a.p)) }, []fault{badPress()}},
		{"Span", func(a args) ([]any, api.Errno) { return one(press.Span(a.p, a.pressing, a.kind)) }, []fault{badPress(), noPressing(), badKind(), noTruth()}},
		{"In", func(a args) ([]any, api.Errno) { return one(press.In(a.p, a.pressing)) }, []fault{badPress(), noPressing(), noTruth()}},
		{"Under", func(a args) ([]any, api.Errno) { return one(press.Under(a.p, a.pressing)) }, []fault{badPress(), noPressing()}},
		{"First", func(a args) ([]any, api.Errno) { return one(press.First(a.p)) }, []fault{badPress(), noTruth()}},
		{"Valid", func(a args) ([]any, api.Errno) { return one(press.Valid(a.p, a.t)) }, []fault{badPress()}},
		{"All", func(a args) ([]any, api.Errno) { return one(press.All(a.p, a.kind)) }, []fault{badPress(), badKind(api.WeighParings), noTruth()}},
		{"Proof", func(a args) ([]any, api.Errno) { return one(press.Proof(a.p, a.kind)) }, []fault{badPress(), badKind(api.WeighParings), noTruth()}},
		{"Yield", func(a args) ([]any, api.Errno) {
			l, m, e := press.Yield(a.p, a.pressing)
			return []any{l, m}, e
		}, []fault{badPress(), noPressing(), noTruth(), onlyGone()}},
		{"Less", func(a args) ([]any, api.Errno) { return one(press.Less(a.p, a.pressing, a.q)) }, []fault{badPress(), noPressing(), badPart(), noTruth()}},
		{"Gone", func(a args) ([]any, api.Errno) {
			n, l, e := press.Gone(a.p)
			return []any{n, l}, e
		}, []fault{badPress(), contradiction()}},
		{"False", func(a args) ([]any, api.Errno) { return one(press.False(a.p)) }, []fault{badPress(), tooMany()}},
		{"Rests", func(a args) ([]any, api.Errno) { return one(press.Rests(a.p, a.pressing, a.kind)) }, []fault{badPress(), noPressing(), badKind(), noTruth()}},
		{"Weigh", func(a args) ([]any, api.Errno) { return one(press.Weigh(a.p, a.x)) }, []fault{badPress(), full(), badNote()}},
		{"Strike", func(a args) ([]any, api.Errno) { return one(press.Strike(a.p, a.l)) }, []fault{badPress(), badNumbers()}},
		{"Lead", func(a args) ([]any, api.Errno) { return one(press.Lead(a.p, a.pressing, a.to)) }, []fault{badPress(), noPressing(), badLead()}},
	}
}

func zero(l []any) bool {
	for _, x := range l {
		v := reflect.ValueOf(x)
		if !v.IsZero() && !(v.Kind() == reflect.Slice && v.Len() == 0) {
			return false
		}
	}
	return true
}

// TestErrors checks P2.1 and P1 (R1, R2, R5, R6, R7), and the errors of P2.2 to P2.8: each fault leads to its error, whatever other faults come behind it, and all results are zero values then.
func TestErrors(t *testing.T) {
	for _, f := range calls() {
		if _, e := f.run(fine()); e != api.OK {
			t.Errorf("%s: %d without a fault", f.name, e)
		}
		for i, x := range f.faults {
			for k, by := range x.by {
				for more := range 1 << (len(f.faults) - i - 1) {
					a := fine()
					for j := len(f.faults) - 1; j > i; j-- { // what is checked later is spoilt first: what is checked first counts
						if more>>(j-i-1)&1 == 1 {
							behind := f.faults[j].by
							behind[k%len(behind)](&a)
						}
					}
					if i == 0 { // a press that was spoilt behind has fewer things to spoil
						a.p = fine().p
					}
					by(&a)
					if l, e := f.run(a); e != x.e || !zero(l) {
						t.Errorf("%s, fault %d.%d (%b): %d, want %d, results %v", f.name, i, k, more, e, x.e, l)
					}
				}
			}
		}
	}
}

// TestPressValid checks P2.1 and R6: presses at the ends of what is allowed are valid.
func TestPressValid(t *testing.T) {
	pressings := func(l ...api.Pressing) api.Press { return api.Press{Pressings: l} }
	full := lead([]int{10, 10, 4, 10, 6, 7, 8, 9, 0, 0})
	full.Weighings = many(30)
	for _, p := range []api.Press{
		{}, full,
		pressings(api.Pressing{Id: 1, Press: 1}),
		pressings(api.Pressing{Id: 9999, Day: 3652, Press: 6}),
		pressings(api.Pressing{Id: 1, Day: 5, Press: 1, To: 9999}, api.Pressing{Id: 9999, Day: 5, Press: 1}),
		lead([]int{0}, note(1, 1, 1, 0, 0), note(9999, 1, 6, 1000000, 1000000)),
		lead([]int{0}, note(1, 1, 3, 5, 5), note(2, 1, 3, 4, 4)),
	} {
		if e := press.Check(p); e != api.OK {
			t.Error(p, e)
		}
	}
	for _, p := range []api.Press{
		lead(make([]int, 11)),
		{Weighings: []api.Weighing{note(1, 0, 1, 0, 0)}},
		{Weighings: []api.Weighing{note(1, 1, 1, 0, 0)}},
		pressings(api.Pressing{Id: 1, Press: 1, To: 1}),
		pressings(api.Pressing{Id: 1, Press: 1}, api.Pressing{Id: 2, Press: 1, To: 1}),
		pressings(api.Pressing{Id: 2, Press: 1}, api.Pressing{Id: 2, Press: 1}),
		pressings(api.Pressing{Id: 1, Press: 1, Day: 2}, api.Pressing{Id: 2, Press: 1, Day: 1}),
	} {
		if e := press.Check(p); e != api.ErrPress {
			t.Error(p, e)
		}
	}
}

// roomy is a list with room behind its end, in which something else lies.
func roomy[T any](l []T, other T) []T {
	k := append(slices.Clone(l), other, other)
	return k[:len(l)]
}

// TestMemory checks P1 (R3, R4): arguments are left as they are, also behind their ends, calls do not depend on those before, results are new memory, nil is as good as empty.
func TestMemory(t *testing.T) {
	for _, f := range calls() {
		a := fine()
		a.p.Pressings, a.p.Weighings, a.l = roomy(a.p.Pressings, api.Pressing{Id: 77}), roomy(a.p.Weighings, note(77, 7, 7, 7, 7)), roomy(a.l, 77)
		pressings, weighings, l := a.p.Pressings[:6], a.p.Weighings[:6], a.l[:4]
		kept := api.Press{Pressings: slices.Clone(pressings), Weighings: slices.Clone(weighings)}
		numbers := slices.Clone(l)
		before, _ := f.run(a)
		text := fmt.Sprint(before)
		again, _ := f.run(a)
		if !reflect.DeepEqual(before, again) {
			t.Error(f.name, before, again)
		}
		if !slices.Equal(pressings, kept.Pressings) || !slices.Equal(weighings, kept.Weighings) || !slices.Equal(l, numbers) {
			t.Error(f.name, "writes to its arguments")
		}
		clear(pressings)
		clear(weighings)
		clear(l)
		wipe(again)
		if fmt.Sprint(before) != text {
			t.Error(f.name, "shares memory")
		}
	}
	for _, p := range []api.Press{{}, {Pressings: []api.Pressing{}, Weighings: []api.Weighing{}}} {
		for _, f := range calls() {
			_, e := f.run(args{p: p, kind: 1, q: part(1, 2), x: note(1, 1, 1, 0, 0)})
			want := map[string]api.Errno{"Span": api.ErrNone, "In": api.ErrNone, "Under": api.ErrNone, "Yield": api.ErrNone, "Less": api.ErrNone, "Rests": api.ErrNone, "Lead": api.ErrNone, "Weigh": api.ErrWeighing}[f.name]
			if e != want {
				t.Error(f.name, e, want)
			}
		}
	}
}

// wipe clears all lists of results.
func wipe(l []any) {
	for _, x := range l {
		switch y := x.(type) {
		case []int:
			clear(y)
		case []api.Weighed:
			clear(y)
		case []api.Missing:
			clear(y)
		case api.Press:
			clear(y.Pressings)
			clear(y.Weighings)
		}
	}
}
