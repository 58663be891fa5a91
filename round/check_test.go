package round_test

import (
	"fmt"
	"math"
	"reflect"
	"slices"
	"testing"

	"oilcake/api"
	"oilcake/round"
)

// args are the arguments of all functions.
type args struct {
	w    api.Watch
	n    int
	rick int
	days [][]int
	x    api.Rick
}

// fine are arguments with which no function but Last returns an error.
func fine() args {
	return args{w: example(), n: 7, rick: 2, days: days(nil, ids(1), ids(2)), x: rick(7, 3, 2)}
}

// hopeless are arguments with which Last returns no error.
func hopeless() args {
	a := fine()
	a.w = lost()
	return a
}

// fault is an error, and all that is done to arguments to lead to it.
type fault struct {
	e  api.Errno
	by []func(a *args)
}

// far are numbers that nothing allows.
func far() []int {
	return []int{-1, -2, math.MinInt, math.MinInt + 1, math.MaxInt, math.MaxInt - 1, math.MinInt32, math.MaxInt32, math.MaxUint32 + 1, math.MinInt / 2, math.MaxInt/2 + 1}
}

// each are changes of arguments by numbers that nothing allows, and by some more.
func each(set func(a *args, n int), more ...int) []func(a *args) {
	var by []func(a *args)
	for _, n := range append(far(), more...) {
		by = append(by, func(a *args) { set(a, n) })
	}
	return by
}

func badWatch() fault {
	return fault{api.ErrWatch, slices.Concat(
		each(func(a *args, n int) { a.w.Hands = n }, 4),
		each(func(a *args, n int) { a.w.Ricks[0].Id = n }, 0, 2, 3, 4, 10000),
		each(func(a *args, n int) { a.w.Ricks[2].Id = n }, 0, 1, 2, 10000),
		each(func(a *args, n int) { a.w.Ricks[1].Every = n }, 0, 1, 7), // 1: it has waited 1 day, or 2
		each(func(a *args, n int) { a.w.Ricks[1].Waited = n }, 4, 5),
		each(func(a *args, n int) { a.w.Ricks[1] = rick(2, n, n-1) }, 0, 7),
		each(func(a *args, n int) { a.w.Ricks[1] = rick(2, n, 0) }, 0, 7),
		[]func(a *args){
			func(a *args) { a.w.Ricks = many(5) },
			func(a *args) { a.w.Ricks = many(100000) },
			func(a *args) { a.w.Ricks = make([]api.Rick, 100000) },
			func(a *args) { slices.Reverse(a.w.Ricks) },
			func(a *args) { a.w.Hands, a.w.Ricks = 4, nil },
			func(a *args) {
				a.w.Hands, a.w.Ricks, a.days = math.MaxInt, many(100000), slices.Repeat(days(slices.Repeat(ids(99999), 100000)), 60)
			},
		},
	)}
}

// many are so many ricks with the Ids 11, 12 and so on.
func many(n int) []api.Rick {
	var l []api.Rick
	for i := range n {
		l = append(l, rick(11+i, 4, 0))
	}
	return l
}

func badDays() fault {
	return fault{api.ErrDays, slices.Concat(
		each(func(a *args, n int) { a.days = days(ids(n)) }, 0, 4, 9999),
		each(func(a *args, n int) { a.days[1] = ids(n) }, 0, 4, 9999),
		each(func(a *args, n int) { a.w.Hands, a.days[2] = 2, ids(n, 2) }, 0, 2, 3),
		each(func(a *args, n int) { a.w.Hands, a.days[2] = 3, ids(1, 2, n) }, 0, 1, 2, 4),
		[]func(a *args){
			func(a *args) { a.days = make([][]int, 61) },
			func(a *args) { a.days = make([][]int, 100000) },
			func(a *args) { a.days = days(ids(1, 2)) },
			func(a *args) { a.w.Hands = 0 },
			func(a *args) { a.w.Hands, a.days[0] = 2, ids(1, 2, 3) },
			func(a *args) { a.w.Hands, a.days[0] = 3, ids(1, 1) },
			func(a *args) { a.w.Hands, a.days[0] = 3, ids(2, 1) },
			func(a *args) { a.w.Hands, a.days[0] = 3, ids(1, 3, 2) },
			func(a *args) { a.w.Hands, a.days[0] = 3, ids(1, 2, 3, 3) },
			func(a *args) { a.w.Hands, a.days[0] = 3, slices.Repeat(ids(1), 100000) },
		},
	)}
}

func noDays() fault {
	return fault{api.ErrDays, []func(a *args){func(a *args) { a.days = nil }, func(a *args) { a.days = [][]int{} }}}
}

func noRick() fault {
	return fault{api.ErrNone, each(func(a *args, n int) { a.rick = n }, 0, 4, 9999, 10000)}
}

func badNumber() fault {
	return fault{api.ErrArg, each(func(a *args, n int) { a.n = n }, 61, 62)}
}

// hard is the fault of a watch that cannot go on for ever.
func hard() fault {
	return fault{api.ErrBad, []func(a *args){
		func(a *args) { a.w = lost() },
		func(a *args) { a.w.Hands = 0 },
		func(a *args) { a.w.Ricks[1].Every, a.w.Ricks[1].Waited = 3, 0 },
		func(a *args) { a.w.Ricks[2].Waited, a.w.Ricks[0].Waited = 3, 1 },
	}}
}

// tooHard is the fault of a watch that cannot go on for ever with any hands.
func tooHard() fault {
	return fault{api.ErrBad, []func(a *args){
		func(a *args) { a.w = fresh(3, 1, 1, 1, 1) },
		func(a *args) { a.w = fresh(0, 1, 1, 1, 6) },
		func(a *args) { a.w = watch(3, rick(1, 2, 1), rick(2, 3, 2), rick(3, 4, 3), rick(4, 5, 4)) },
	}}
}

// tooMoist is the fault of a watch that cannot go on for ever, how moist a rick of it is.
func tooMoist() fault {
	return fault{api.ErrBad, []func(a *args){
		func(a *args) { a.w = watch(1, rick(1, 3, 2), rick(2, 4, 0), rick(3, 4, 3)) },
		func(a *args) { a.w.Hands = 0 },
		func(a *args) { a.w = fresh(1, 2, 6, 2) },
		func(a *args) { a.w = watch(1, rick(1, 1, 0), rick(2, 6, 0)) },
	}}
}

func noRicks() fault {
	return fault{api.ErrNone, []func(a *args){func(a *args) { a.w.Ricks = nil }, func(a *args) { a.w = api.Watch{Ricks: []api.Rick{}} }}}
}

// easy is the fault of a watch that can go on for ever where one is asked for that cannot.
func easy() fault {
	return fault{api.ErrNone, []func(a *args){
		func(a *args) { a.w = example() },
		func(a *args) { a.w.Hands = 2 },
		func(a *args) { a.w.Ricks = nil },
	}}
}

func tooHot() fault {
	return fault{api.ErrHot, []func(a *args){
		func(a *args) { a.days = days(nil, nil, nil) },
		func(a *args) { a.days = days(ids(1), ids(1), ids(1)) },
		func(a *args) { a.days = days(ids(1), ids(1), ids(1), ids(2)) },
		func(a *args) { a.w.Ricks[0] = rick(1, 1, 0) },
	}}
}

func fullRicks() fault {
	return fault{api.ErrFull, []func(a *args){func(a *args) { a.w.Ricks = many(4) }}}
}

func badRick() fault {
	return fault{api.ErrRick, slices.Concat(
		each(func(a *args, n int) { a.x.Id = n }, 0, 1, 2, 3, 10000),
		each(func(a *args, n int) { a.x.Every = n }, 0, 1, 2, 7), // it has waited 2 days
		each(func(a *args, n int) { a.x.Waited = n }, 3, 4),
		each(func(a *args, n int) { a.x.Every, a.x.Waited = n, n-1 }, 0, 7),
	)}
}

// call is a function with the arguments that it starts from, and the faults that it names, in their order.
type call struct {
	name   string
	start  func() args
	run    func(a args) ([]any, api.Errno)
	faults []fault
}

func one[T any](x T, e api.Errno) ([]any, api.Errno) { return []any{x}, e }

func calls() []call {
	return []call{
		{"Check", fine, func(a args) ([]any, api.Errno) { return nil, round.Check(a.w) }, []fault{badWatch()}},
		{"Share", fine, func(a args) ([]any, api.Errno) { return one(round.Share(a.w)) }, []fault{badWatch()}},
		{"Can", fine, func(a args) ([]any, api.Errno) { return one(round.Can(a.w)) }, []fault{badWatch()}},
		{"Today", fine, func(a args) ([]any, api.Errno) { return one(round.Today(a.w)) }, []fault{badWatch(), hard()}},
		{"Days", fine, func(a args) ([]any, api.Errno) { return one(round.Days(a.w, a.n)) }, []fault{badWatch(), badNumber(), hard()}},
		{"Round", fine, func(a args) ([]any, api.Errno) {
			k, l, e := round.Round(a.w)
			return []any{k, l}, e
		}, []fault{badWatch(), hard()}},
		{"Last", hopeless, func(a args) ([]any, api.Errno) { return one(round.Last(a.w)) }, []fault{badWatch(), easy()}},
		{"Fewest", fine, func(a args) ([]any, api.Errno) { return one(round.Fewest(a.w)) }, []fault{badWatch(), tooHard()}},
		{"Moistest", fine, func(a args) ([]any, api.Errno) { return one(round.Moistest(a.w, a.rick)) }, []fault{badWatch(), noRick(), tooMoist()}},
		{"Spare", fine, func(a args) ([]any, api.Errno) { return one(round.Spare(a.w)) }, []fault{badWatch(), hard()}},
		{"Spare", fine, func(a args) ([]any, api.Errno) { return one(round.Spare(a.w)) }, []fault{badWatch(), noRicks()}},
		{"Hot", fine, func(a args) ([]any, api.Errno) { return one(round.Hot(a.w, a.days)) }, []fault{badWatch(), badDays()}},
		{"After", fine, func(a args) ([]any, api.Errno) { return one(round.After(a.w, a.days)) }, []fault{badWatch(), badDays(), tooHot()}},
		{"Repeats", fine, func(a args) ([]any, api.Errno) { return one(round.Repeats(a.w, a.days)) }, []fault{badWatch(), badDays()}},
		{"Repeats", fine, func(a args) ([]any, api.Errno) { return one(round.Repeats(a.w, a.days)) }, []fault{badWatch(), noDays()}},
		{"Put", fine, func(a args) ([]any, api.Errno) { return one(round.Put(a.w, a.x)) }, []fault{badWatch(), fullRicks(), badRick()}},
		{"Drop", fine, func(a args) ([]any, api.Errno) { return one(round.Drop(a.w, a.rick)) }, []fault{badWatch(), noRick()}},
	}
}

func zero(l []any) bool {
	for _, x := range l {
		v := reflect.ValueOf(x)
		if !v.IsZero() && !(v.Kind() == reflect.Slice && v.Len() == 0) {
			return false
		}
	}
	return true
}

// spoilt are the arguments of a call with a fault, and with some of those behind it. These come first: what is checked first counts.
func spoilt(f call, i, k, more int) args {
	a := f.start()
	for j := len(f.faults) - 1; j > i; j-- {
		if more>>(j-i-1)&1 == 1 {
			behind := f.faults[j].by
			behind[k%len(behind)](&a)
		}
	}
	switch f.faults[i].e {
	case api.ErrWatch: // a watch that was spoilt behind can have fewer things to spoil
		a.w = f.start().w
	case api.ErrDays:
		a.w, a.days = f.start().w, f.start().days
	}
	f.faults[i].by[k](&a)
	return a
}

// TestErrors checks P7.1 and P1 (R1, R2, R5, R6, R7), and the errors of P7.3 to P7.7: each fault leads to its error, whatever other faults come behind it, and all results are zero values then.
func TestErrors(t *testing.T) {
	for _, f := range calls() {
		if _, e := f.run(f.start()); e != api.OK {
			t.Errorf("%s: %d without a fault", f.name, e)
		}
		for i, x := range f.faults {
			for k := range x.by {
				for more := range 1 << (len(f.faults) - i - 1) {
					a := spoilt(f, i, k, more)
					if l, e := f.run(a); e != x.e || !zero(l) {
						t.Errorf("%s, fault %d.%d (%b): %d, want %d, results %v", f.name, i, k, more, e, x.e, l)
					}
				}
			}
		}
	}
}

// TestWatchValid checks P7.1 and R6: watches at the ends of what is allowed are valid, those behind them not.
func TestWatchValid(t *testing.T) {
	for _, w := range []api.Watch{
		{}, {Hands: 3}, example(), lost(),
		{Hands: 3, Ricks: []api.Rick{}},
		watch(0, rick(1, 1, 0), rick(9999, 6, 5)),
		watch(3, rick(9996, 1, 0), rick(9997, 2, 1), rick(9998, 3, 2), rick(9999, 4, 3)),
		watch(1, many(4)...),
	} {
		if e := round.Check(w); e != api.OK {
			t.Error(w, e)
		}
	}
	for _, w := range []api.Watch{
		{Hands: -1}, {Hands: 4}, {Ricks: make([]api.Rick, 1)},
		watch(1, rick(0, 2, 0)), watch(1, rick(10000, 2, 0)), watch(1, rick(-1, 2, 0)),
		watch(1, rick(1, 0, 0)), watch(1, rick(1, 7, 0)), watch(1, rick(1, 0, -1)),
		watch(1, rick(1, 1, 1)), watch(1, rick(1, 6, 6)), watch(1, rick(1, 6, -1)),
		watch(1, rick(5, 2, 0), rick(5, 3, 0)), watch(1, rick(5, 2, 0), rick(4, 2, 0)),
		watch(1, many(5)...),
	} {
		if e := round.Check(w); e != api.ErrWatch {
			t.Error(w, e)
		}
	}
}

// TestDaysValid checks P7.1 and R6: of all lists just those are days' turnings that are in order, and that the hands can do.
func TestDaysValid(t *testing.T) {
	for hands := range 4 {
		w := watch(hands, rick(2, 6, 0), rick(4, 6, 0), rick(5, 6, 0), rick(9, 6, 0))
		valid := map[string]bool{}
		for _, l := range lists(w) {
			valid[fmt.Sprint(l)] = true
		}
		var try func(l []int)
		try = func(l []int) {
			want := api.ErrDays
			if valid[fmt.Sprint(l)] {
				want = api.OK
			}
			all := days(nil, l)
			_, e := round.Hot(w, all)
			_, f := round.After(w, all)
			_, g := round.Repeats(w, all)
			if e != want || f != want || g != want {
				t.Error(hands, l, e, f, g, want)
			}
			for id := 2; id <= 9 && len(l) < 5; id++ {
				try(append(l, id))
			}
		}
		try(nil)
	}
	full := slices.Repeat(days(ids(1)), 60)
	w := fresh(1, 1)
	if l, e := round.Hot(w, full); len(l) > 0 || e != api.OK {
		t.Error(l, e)
	}
	if v, e := round.After(w, full); !sameWatch(v, w) || e != api.OK {
		t.Error(v, e)
	}
	if is, e := round.Repeats(w, full); !is || e != api.OK {
		t.Error(is, e)
	}
}

// roomy is a list with room behind its end, in which something else lies.
func roomy[T any](l []T, other T) []T {
	k := append(slices.Clone(l), other, other)
	return k[:len(l)]
}

// TestMemory checks P1 (R3): arguments are left as they are, also behind their ends, calls do not depend on those before, and results are new memory.
func TestMemory(t *testing.T) {
	for _, f := range calls() {
		a := f.start()
		a.w.Ricks = roomy(a.w.Ricks, rick(77, 7, 7))
		for i, l := range a.days {
			a.days[i] = roomy(l, 77)
		}
		a.days = roomy(a.days, ids(77))
		ricks, all := a.w.Ricks[:5], a.days[:5]
		first := a.days[1][:3]
		kept := fmt.Sprint(ricks, all, first)
		before, _ := f.run(a)
		text := fmt.Sprint(before)
		again, _ := f.run(a)
		if !reflect.DeepEqual(before, again) {
			t.Error(f.name, before, again)
		}
		if fmt.Sprint(ricks, all, first) != kept {
			t.Error(f.name, "writes to its arguments")
		}
		clear(ricks)
		clear(first)
		for _, l := range all {
			clear(l)
		}
		clear(all)
		wipe(again)
		if fmt.Sprint(before) != text {
			t.Error(f.name, "shares memory")
		}
	}
}

// wipe clears all lists of results.
func wipe(l []any) {
	for _, x := range l {
		switch y := x.(type) {
		case []int:
			clear(y)
		case [][]int:
			for _, z := range y {
				clear(z)
			}
			clear(y)
		case []api.Heat:
			clear(y)
		case api.Watch:
			clear(y.Ricks)
		}
	}
}

// TestApart checks P1 (R3): lists of one result share no memory, also behind their ends.
func TestApart(t *testing.T) {
	w := example()
	plan, _ := round.Days(w, 60)
	lead, again, _ := round.Round(w)
	last, _ := round.Last(fresh(1, 3, 4, 5, 6))
	if len(last) < 3 || len(lead) == 0 || len(again) == 0 {
		t.Fatal(last, lead, again)
	}
	for _, l := range [][][]int{plan, slices.Concat(lead, again), last} {
		text := fmt.Sprint(l)
		for i, x := range l {
			kept := slices.Clone(x)
			full := x[:cap(x)]
			for k := range full {
				full[k] = -1
			}
			copy(x, kept)
			if fmt.Sprint(l) != text {
				t.Fatal(i, l, text)
			}
		}
	}
	k, l := append(lead, ids(-1)), append(again, ids(-2))
	if len(k) != 3 || k[2][0] != -1 || len(l) != 5 || l[4][0] != -2 || again[0][0] != 1 {
		t.Error(k, l)
	}
}

// TestEmpty checks P1 (R4) and P7.2 to P7.7: nil is as good as empty; a watch without ricks can go on for ever, and it does by a round of one day.
func TestEmpty(t *testing.T) {
	wants := map[string]string{
		"Check": "[] 0", "Share": "[{0 1}] 0", "Can": "[true] 0", "Today": "[[]] 0", "Days": "[[[] []]] 0", "Round": "[[] [[]]] 0", "Last": "[[]] 6", "Fewest": "[0] 0", "Moistest": "[0] 6", "Spare": "[0] 6",
		"Hot": "[[]] 0", "After": "[{0 []}] 0", "Repeats": "[true] 0", "Put": "[{0 [{6 2 1}]}] 0", "Drop": "[{0 []}] 6",
	}
	for _, w := range []api.Watch{{}, {Ricks: []api.Rick{}}} {
		for _, l := range [][][]int{{nil, nil}, {{}, {}}} {
			for _, f := range calls() {
				x, e := f.run(args{w: w, n: 2, rick: 1, days: l, x: rick(6, 2, 1)})
				if got := fmt.Sprint(x, int(e)); got != wants[f.name] {
					t.Error(f.name, got)
				}
			}
		}
	}
	for _, l := range [][][]int{nil, {}} {
		if hot, e := round.Hot(example(), l); len(hot) > 0 || e != api.OK {
			t.Error(hot, e)
		}
		if w, e := round.After(example(), l); !sameWatch(w, example()) || e != api.OK {
			t.Error(w, e)
		}
	}
}
