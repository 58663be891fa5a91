package turn_test

import (
	"fmt"
	"math"
	"reflect"
	"slices"
	"testing"

	"oilcake/api"
	"oilcake/turn"
)

// args are the arguments of all functions; contra is a roll without a truth, for Clash.
type args struct {
	r, contra     api.Roll
	x, a, b       api.Thing
	there         [][]int
	man, pressing int
	note          api.Note
	numbers       []int
}

// fine are arguments with which no function returns an error.
func fine() args {
	return args{
		r: example(), contra: contradicted(), x: was(1, 1), a: was(1, 2), b: was(1, 1), there: [][]int{ints(1, 2), ints(1, 2, 3)},
		man: 1, pressing: 1, note: note(5, was(2, 2), not(1, 2)), numbers: ints(1, 3),
	}
}

// fault is an error, and all that is done to arguments to lead to it.
type fault struct {
	e  api.Errno
	by []func(a *args)
}

// far are numbers that nothing allows.
func far() []int {
	return []int{-1, -2, math.MinInt, math.MinInt + 1, math.MaxInt, math.MaxInt - 1, math.MinInt32, math.MaxInt32, math.MaxUint32 + 1, math.MaxUint32 + 2, math.MinInt / 2, math.MaxInt/2 + 1}
}

// each are changes of arguments by numbers that nothing allows, and by some more.
func each(set func(a *args, n int), more ...int) []func(a *args) {
	var by []func(a *args)
	for _, n := range append(far(), more...) {
		by = append(by, func(a *args) { set(a, n) })
	}
	return by
}

// rolls are changes of both rolls.
func rolls(l ...func(r *api.Roll)) []func(a *args) {
	var by []func(a *args)
	for _, f := range l {
		by = append(by, func(a *args) { f(&a.r); f(&a.contra) })
	}
	return by
}

// eachRoll are changes of both rolls by numbers that nothing allows, and by some more.
func eachRoll(set func(r *api.Roll, n int), more ...int) []func(a *args) {
	return each(func(a *args, n int) { set(&a.r, n); set(&a.contra, n) }, more...)
}

func badPress() fault {
	return fault{api.ErrPress, slices.Concat(
		eachRoll(func(r *api.Roll, n int) { r.Press.Pressings[0].Id = n }, 0, 2, 10000),
		eachRoll(func(r *api.Roll, n int) { r.Press.Pressings[1].Press = n }, 0, 7),
		eachRoll(func(r *api.Roll, n int) { r.Press.Pressings[1].To = n }, 1, 2, 4),
		eachRoll(func(r *api.Roll, n int) { r.Press.Weighings[0].Pressing = n }, 0, 4),
		eachRoll(func(r *api.Roll, n int) { r.Press.Weighings[1].Ounces.Lo = n }, 21),
		rolls(
			func(r *api.Roll) { slices.Reverse(r.Press.Pressings) },
			func(r *api.Roll) { r.Press = pressings(1, 2, 3, 4, 5, 6, 7, 8, 9, 10, 11) },
			func(r *api.Roll) { r.Press.Pressings = nil }, // the weighings are of none then
			func(r *api.Roll) { r.Press.Pressings = make([]api.Pressing, 100000) },
		),
	)}
}

func badMen() []func(a *args) {
	return slices.Concat(
		eachRoll(func(r *api.Roll, n int) { r.Men[0] = n }, 0, 2, 3, 4, 10000),
		eachRoll(func(r *api.Roll, n int) { r.Men[2] = n }, 0, 1, 2, 10000),
		eachRoll(func(r *api.Roll, n int) { r.Men = append(r.Men, n) }, 0, 3, 10000),
		rolls(
			func(r *api.Roll) { r.Men = nil }, // the notes are of none then
			func(r *api.Roll) { r.Men = ints(1, 2, 3, 4, 5) },
			func(r *api.Roll) { r.Men = ints(2, 1, 3) },
			func(r *api.Roll) { r.Men = ints(1, 2) },
			func(r *api.Roll) { r.Men = make([]int, 100000) },
			func(r *api.Roll) { r.Men, r.Notes = ints(1, 1), nil },
			func(r *api.Roll) { r.Men, r.Shifts, r.Notes = ints(1, 2, 3, 4, 5), nil, nil },
		),
	)
}

func badShifts() []func(a *args) {
	return slices.Concat(
		eachRoll(func(r *api.Roll, n int) { r.Shifts[0].Pressing = n }, 0, 2, 3, 4),
		eachRoll(func(r *api.Roll, n int) { r.Shifts[1].Pressing = n }, 0, 1, 4),
		eachRoll(func(r *api.Roll, n int) { r.Shifts[0].Pence = n }, 1000001),
		eachRoll(func(r *api.Roll, n int) { r.Shifts[1].Pence = n }, 1000001),
		eachRoll(func(r *api.Roll, n int) { r.Shifts = append(r.Shifts, api.Shift{Pressing: n}) }, 0, 1, 2, 4),
		rolls(
			func(r *api.Roll) { r.Shifts = nil },
			func(r *api.Roll) { r.Shifts = r.Shifts[:1] },
			func(r *api.Roll) { slices.Reverse(r.Shifts) },
			func(r *api.Roll) { r.Press = pressings(2, 3, 4) },
			func(r *api.Roll) { r.Press = api.Press{} },
			func(r *api.Roll) { r.Press, r.Shifts = blank(1, 5).Press, blank(1, 5).Shifts },
			func(r *api.Roll) { r.Shifts = make([]api.Shift, 100000) },
			func(r *api.Roll) { r.Shifts, r.Men, r.Notes = append(r.Shifts, r.Shifts[1]), nil, nil },
		),
	)
}

func badNotes() []func(a *args) {
	return slices.Concat(
		eachRoll(func(r *api.Roll, n int) { r.Notes[0].Number = n }, 0, 2, 3, 10000),
		eachRoll(func(r *api.Roll, n int) { r.Notes[3].Number = n }, 0, 2, 3, 10000),
		eachRoll(func(r *api.Roll, n int) { r.Notes[0].One.Man = n }, 0, 4, 9999),
		eachRoll(func(r *api.Roll, n int) { r.Notes[3].One.Pressing = n }, 0, 3, 4),
		eachRoll(func(r *api.Roll, n int) { r.Notes[0].Other.Man = n }, 0, 4, 9999),
		eachRoll(func(r *api.Roll, n int) { r.Notes[3].Other.Pressing = n }, 0, 3, 4),
		rolls(
			func(r *api.Roll) { slices.Reverse(r.Notes) },
			func(r *api.Roll) { r.Notes = same(25) },
			func(r *api.Roll) { r.Notes = make([]api.Note, 1) },
			func(r *api.Roll) { r.Notes = make([]api.Note, 100000) },
			func(r *api.Roll) { r.Notes = append(r.Notes, r.Notes[len(r.Notes)-1]) },
		),
	)
}

// same are so many notes that say the same, with the Numbers 11, 12 and so on.
func same(n int) []api.Note {
	var l []api.Note
	for i := range n {
		l = append(l, note(11+i, was(1, 1), not(2, 2)))
	}
	return l
}

func badRoll() fault {
	return fault{api.ErrRoll, slices.Concat(badMen(), badShifts(), badNotes())}
}

func badX() fault {
	return fault{api.ErrThing, slices.Concat(
		each(func(a *args, n int) { a.x.Man = n }, 0, 4, 9999),
		each(func(a *args, n int) { a.x.Pressing = n }, 0, 3, 4, 9999),
		[]func(a *args){func(a *args) { a.x = api.Thing{} }},
	)}
}

func badPair() fault {
	return fault{api.ErrThing, slices.Concat(
		each(func(a *args, n int) { a.a.Man = n }, 0, 4, 9999),
		each(func(a *args, n int) { a.b.Man = n }, 0, 4, 9999),
		each(func(a *args, n int) { a.a.Pressing = n }, 0, 3, 4, 9999),
		each(func(a *args, n int) { a.b.Pressing = n }, 0, 3, 4, 9999),
		each(func(a *args, n int) { a.a = not(n, 1); a.b = a.a }, 0, 4),
		each(func(a *args, n int) { a.a = not(1, n); a.b = a.a }, 0, 3),
	)}
}

// noTruth is the fault of a roll that is valid, but has no truth.
func noTruth() fault {
	return fault{api.ErrBad, []func(a *args){
		func(a *args) { a.r = contradicted() },
		func(a *args) { a.r = example(note(9998, was(3, 1), was(3, 1))) },
		func(a *args) {
			a.r = example(note(5, not(1, 1), not(3, 2)), note(6, not(2, 1), not(2, 1)), note(7, was(3, 2), was(3, 1)))
		},
		func(a *args) {
			a.r = with(example(), was(2, 2), was(2, 1), was(2, 2), not(2, 1), not(2, 2), was(2, 1), not(2, 2), not(2, 1))
		},
	}}
}

func noChain() fault {
	return fault{api.ErrNone, []func(a *args){
		func(a *args) { a.a, a.b = was(1, 1), not(1, 1) },
		func(a *args) { a.a, a.b = was(1, 1), was(1, 2) },
		func(a *args) { a.a, a.b = not(3, 1), was(3, 1) },
		func(a *args) { a.r.Notes = nil },
		func(a *args) { a.r.Notes = a.r.Notes[:2] },
	}}
}

func noClash() fault {
	return fault{api.ErrNone, []func(a *args){
		func(a *args) { a.contra = example() },
		func(a *args) { a.contra.Notes = nil },
		func(a *args) { a.contra.Notes = a.contra.Notes[:5] },
		func(a *args) { a.contra.Notes = a.contra.Notes[1:] },
		func(a *args) { a.contra = api.Roll{} },
	}}
}

// oneTruth is the fault of a roll with just one truth.
func oneTruth() fault {
	return fault{api.ErrNone, []func(a *args){
		func(a *args) { a.r = api.Roll{} },
		func(a *args) { a.r.Men, a.r.Notes = nil, nil },
		func(a *args) { a.r.Shifts, a.r.Notes = nil, nil },
		func(a *args) { a.r = with(blank(1, 1), was(1, 1), was(1, 1)) },
		func(a *args) { a.r = with(blank(1, 1), not(1, 1), not(1, 1)) },
		func(a *args) {
			a.r = with(blank(1, 2), was(1, 1), was(1, 2), was(1, 1), not(1, 2), not(1, 1), was(1, 2))
		},
	}}
}

// tooWrong is the fault of a roll of which more than three notes must be false.
func tooWrong() fault {
	return fault{api.ErrMany, []func(a *args){
		func(a *args) { a.r = quarrel(4) },
		func(a *args) { a.r = quarrel(6) },
		func(a *args) { a.r = quarrel(12) },
	}}
}

// quarrel is a roll with notes that say of so many things that they are so, and with as many that say that they are not.
func quarrel(n int) api.Roll {
	r := blank(4, 4)
	own := things(r)
	var l []api.Thing
	for _, x := range own[:n] {
		l = append(l, x, x)
	}
	for _, x := range own[:n] {
		l = append(l, contrary(x), contrary(x))
	}
	return with(r, l...)
}

func badThere() fault {
	return fault{api.ErrThere, slices.Concat(
		each(func(a *args, n int) { a.there[0][0] = n }, 0, 2, 3, 4, 9999),
		each(func(a *args, n int) { a.there[1][2] = n }, 0, 1, 2, 4, 9999),
		each(func(a *args, n int) { a.there = [][]int{nil, ints(n)} }, 0, 4, 9999),
		[]func(a *args){
			func(a *args) { a.there = nil },
			func(a *args) { a.there = [][]int{} },
			func(a *args) { a.there = a.there[:1] },
			func(a *args) { a.there = append(a.there, nil) },
			func(a *args) { a.there = append(a.there, ints(1)) },
			func(a *args) { a.there[1] = ints(3, 2, 1) },
			func(a *args) { a.there[1] = ints(1, 1) },
			func(a *args) { a.there[1] = ints(1, 2, 3, 4) },
			func(a *args) { a.there = make([][]int, 100000) },
			func(a *args) { a.there[0] = make([]int, 100000) },
		},
	)}
}

func noMan() fault {
	return fault{api.ErrNone, each(func(a *args, n int) { a.man = n }, 0, 4, 9999)}
}

// noShift is the fault of a pressing for which nothing is paid, also if it is one of the press.
func noShift() fault {
	return fault{api.ErrNone, each(func(a *args, n int) { a.pressing = n }, 0, 3, 4, 9999)}
}

// noWeights is the fault of a press that has no truth.
func noWeights() fault {
	more := func(l ...api.Weighing) func(a *args) {
		return func(a *args) { a.r.Press.Weighings = append(a.r.Press.Weighings, l...) }
	}
	return fault{api.ErrBad, []func(a *args){
		more(oil(9, 1, 51, 60), oil(10, 1, 39, 39)),
		more(oil(9, 3, 21, 21), oil(10, 3, 20, 20)),
		more(oil(9, 2, 0, 1), oil(10, 2, 2, 2)),
	}}
}

// noOil is the fault of a pressing that may have made no oil.
func noOil() fault {
	return fault{api.ErrNone, []func(a *args){
		func(a *args) { a.pressing = 2 },
		func(a *args) { a.r.Press.Weighings = nil },
		func(a *args) { a.r.Press.Weighings[0].Ounces = span(0, 50) },
		func(a *args) { a.r.Press.Weighings[0].Ounces = span(0, 0) },
		func(a *args) { a.r.Press.Weighings[0].Kind = api.WeighSeed },
	}}
}

func fullNotes() fault {
	return fault{api.ErrFull, []func(a *args){func(a *args) { a.r.Notes = same(24) }}}
}

func badNote() fault {
	return fault{api.ErrNote, slices.Concat(
		each(func(a *args, n int) { a.note.Number = n }, 0, 10000),
		each(func(a *args, n int) { a.note.Number, a.r = n, example() }, 1, 2, 3, 4),
		each(func(a *args, n int) { a.note.One.Man = n }, 0, 4, 9999),
		each(func(a *args, n int) { a.note.Other.Man = n }, 0, 4, 9999),
		each(func(a *args, n int) { a.note.One.Pressing = n }, 0, 3, 4, 9999),
		each(func(a *args, n int) { a.note.Other.Pressing = n }, 0, 3, 4, 9999),
		[]func(a *args){func(a *args) { a.note = api.Note{} }, func(a *args) { a.note = api.Note{Number: 5} }},
	)}
}

func badNumbers() fault {
	return fault{api.ErrNote, slices.Concat(
		each(func(a *args, n int) { a.numbers[0] = n }, 0, 3, 4, 5, 9999),
		each(func(a *args, n int) { a.numbers[1] = n }, 0, 1, 5, 9999),
		each(func(a *args, n int) { a.numbers = ints(n) }, 0, 5, 9999),
		[]func(a *args){
			func(a *args) { a.numbers = ints(3, 1) },
			func(a *args) { a.numbers = ints(1, 2, 2, 3) },
			func(a *args) { a.numbers = ints(1, 2, 3, 4, 5) },
			func(a *args) { a.numbers = make([]int, 100000) },
			func(a *args) { a.r.Notes = nil },
		},
	)}
}

// call is a function with the faults that it names, in their order.
type call struct {
	name   string
	run    func(a args) ([]any, api.Errno)
	faults []fault
}

func one[T any](x T, e api.Errno) ([]any, api.Errno) { return []any{x}, e }

func calls() []call {
	list := []call{
		{"Check", func(a args) ([]any, api.Errno) { return nil, turn.Check(a.r) }, nil},
		{"Count", func(a args) ([]any, api.Errno) { return one(turn.Count(a.r)) }, nil},
		{"Truth", func(a args) ([]any, api.Errno) { return one(turn.Truth(a.r)) }, []fault{noTruth()}},
		{"Known", func(a args) ([]any, api.Errno) { return one(turn.Known(a.r, a.x)) }, []fault{badX(), noTruth()}},
		{"Follows", func(a args) ([]any, api.Errno) { return one(turn.Follows(a.r, a.a, a.b)) }, []fault{badPair(), noTruth()}},
		{"Chain", func(a args) ([]any, api.Errno) { return one(turn.Chain(a.r, a.a, a.b)) }, []fault{badPair(), noChain()}},
		{"Clash", func(a args) ([]any, api.Errno) {
			x, down, up, e := turn.Clash(a.contra)
			return []any{x, down, up}, e
		}, []fault{noClash()}},
		{"Ask", func(a args) ([]any, api.Errno) {
			x, left, e := turn.Ask(a.r)
			return []any{x, left}, e
		}, []fault{noTruth(), oneTruth()}},
		{"Wrong", func(a args) ([]any, api.Errno) { return one(turn.Wrong(a.r)) }, []fault{tooWrong()}},
		{"Paid", func(a args) ([]any, api.Errno) { return one(turn.Paid(a.r, a.there)) }, []fault{badThere()}},
		{"Pay", func(a args) ([]any, api.Errno) { return one(turn.Pay(a.r, a.man)) }, []fault{noMan(), noTruth()}},
		{"Whole", func(a args) ([]any, api.Errno) { return one(turn.Whole(a.r)) }, []fault{noTruth()}},
		{"Ounce", func(a args) ([]any, api.Errno) {
			least, most, e := turn.Ounce(a.r, a.pressing)
			return []any{least, most}, e
		}, []fault{noShift(), noWeights(), noOil()}},
		{"Put", func(a args) ([]any, api.Errno) { return one(turn.Put(a.r, a.note)) }, []fault{fullNotes(), badNote()}},
		{"Strike", func(a args) ([]any, api.Errno) { return one(turn.Strike(a.r, a.numbers)) }, []fault{badNumbers()}},
	}
	for i := range list {
		list[i].faults = append([]fault{badPress(), badRoll()}, list[i].faults...)
	}
	return list
}

func zero(l []any) bool {
	for _, x := range l {
		v := reflect.ValueOf(x)
		if !v.IsZero() && !(v.Kind() == reflect.Slice && v.Len() == 0) {
			return false
		}
	}
	return true
}

// spoil does something to arguments that leads to a fault. What was spoilt before can have nothing left to spoil.
func spoil(a *args, f fault, k int) {
	switch f.e {
	case api.ErrPress:
		a.r.Press, a.contra.Press = fine().r.Press, fine().contra.Press
	case api.ErrRoll:
		a.r, a.contra = fine().r, fine().contra
	case api.ErrThere, api.ErrNote:
		a.there, a.numbers = fine().there, fine().numbers
	}
	f.by[k%len(f.by)](a)
}

// spoilt are arguments with a fault of a call, and with some of those behind it. These come first: what is checked first counts.
func spoilt(f call, i, k, more int) args {
	a := fine()
	for j := len(f.faults) - 1; j > i; j-- {
		if more>>(j-i-1)&1 == 1 {
			spoil(&a, f.faults[j], k)
		}
	}
	spoil(&a, f.faults[i], k)
	return a
}

// TestErrors checks P9.1 and P1 (R1, R2, R5, R6, R7), and the errors of P9.2 to P9.8: each fault leads to its error, whatever other faults come behind it, and all results are zero values then.
func TestErrors(t *testing.T) {
	for _, f := range calls() {
		if _, e := f.run(fine()); e != api.OK {
			t.Errorf("%s: %d without a fault", f.name, e)
		}
		for i, x := range f.faults {
			for k := range x.by {
				for more := range 1 << (len(f.faults) - i - 1) {
					a := spoilt(f, i, k, more)
					if l, e := f.run(a); e != x.e || !zero(l) {
						t.Errorf("%s, fault %d.%d (%b): %d, want %d, results %v", f.name, i, k, more, e, x.e, l)
					}
				}
			}
		}
	}
}

// TestRollValid checks P9.1 and R6: rolls at the ends of what is allowed are valid, those behind them not.
func TestRollValid(t *testing.T) {
	great := blank(4, 4)
	great.Men = ints(1, 2, 3, 9999)
	great.Press = pressings(1, 2, 3, 5, 6, 7, 8, 9, 10, 9999)
	great.Shifts = []api.Shift{{Pressing: 1, Pence: 1000000}, {Pressing: 5}, {Pressing: 10, Pence: 1}, {Pressing: 9999, Pence: 1000000}}
	for i := range 24 {
		great.Notes = append(great.Notes, note(9976+i, not(9999, 9999), was(1, 1)))
	}
	unpaid := blank(2, 2)
	unpaid.Shifts = nil
	unmanned := blank(0, 4)
	empties := api.Roll{Press: api.Press{Pressings: []api.Pressing{}, Weighings: []api.Weighing{}}, Men: []int{}, Shifts: []api.Shift{}, Notes: []api.Note{}}
	bare := blank(1, 1)
	bare.Notes = []api.Note{note(1, was(1, 1), not(1, 1)), note(9999, was(1, 1), was(1, 1))}
	badWeights := blank(1, 1)
	badWeights.Press.Weighings = []api.Weighing{oil(1, 1, 1, 1), oil(2, 1, 2, 2)}
	for i, r := range []api.Roll{{}, empties, great, unpaid, unmanned, bare, badWeights, example(), contradicted(), blank(4, 4), quarrel(12)} {
		if e := turn.Check(r); e != api.OK {
			t.Error(i, e)
		}
	}
	for i, change := range []func(r *api.Roll){
		func(r *api.Roll) { r.Men = ints(1, 2, 3, 4, 9999) },
		func(r *api.Roll) {
			r.Shifts = append(r.Shifts[:1], append([]api.Shift{{Pressing: 2}}, r.Shifts[1:]...)...)
		},
		func(r *api.Roll) { r.Notes = append([]api.Note{note(1, was(1, 1), was(1, 1))}, r.Notes...) },
		func(r *api.Roll) { r.Shifts[0].Pence++ },
		func(r *api.Roll) { r.Shifts[1].Pence-- },
		func(r *api.Roll) { r.Notes[7].One.Man = 4 },
		func(r *api.Roll) { r.Notes[23].Other.Pressing = 2 },
		func(r *api.Roll) { r.Notes[23].Number++ },
		func(r *api.Roll) { r.Notes[3].Number++ },
		func(r *api.Roll) { r.Men[3]++ },
		func(r *api.Roll) { r.Men[0]-- },
		func(r *api.Roll) { r.Men[1]-- },
		func(r *api.Roll) { r.Shifts[1], r.Shifts[2] = r.Shifts[2], r.Shifts[1] },
		func(r *api.Roll) { r.Shifts[2].Pressing = 5 },
	} {
		r := great
		r.Men, r.Shifts, r.Notes = slices.Clone(r.Men), slices.Clone(r.Shifts), slices.Clone(r.Notes)
		change(&r)
		if e := turn.Check(r); e != api.ErrRoll {
			t.Error(i, e)
		}
	}
}

// TestBadWeights checks P9.1 and P9.7: if the press has no truth, the roll is as good as before, but for Ounce.
func TestBadWeights(t *testing.T) {
	r := example()
	r.Press.Weighings = append(r.Press.Weighings, oil(9, 2, 5, 6), oil(10, 2, 7, 8))
	if n, e := turn.Count(r); n != 10 || e != api.OK {
		t.Error(n, e)
	}
	if s, e := turn.Whole(r); s != span(100, 150) || e != api.OK {
		t.Error(s, e)
	}
	if _, _, e := turn.Ounce(r, 1); e != api.ErrBad {
		t.Error(e)
	}
}

// roomy is a list with room behind its end, in which something else lies.
func roomy[T any](l []T, other T) []T {
	k := append(slices.Clone(l), other, other)
	return k[:len(l)]
}

func full[T any](l []T) []T { return l[:cap(l)] }

func rollLists(r api.Roll) []any {
	return []any{full(r.Press.Pressings), full(r.Press.Weighings), full(r.Men), full(r.Shifts), full(r.Notes)}
}

// argLists are the arguments' lists, with what is behind their ends.
func argLists(a args) []any {
	l := slices.Concat(rollLists(a.r), rollLists(a.contra), []any{full(a.there), full(a.numbers)})
	for _, men := range full(a.there) {
		l = append(l, full(men))
	}
	return l
}

func roomyRoll(r api.Roll) api.Roll {
	r.Press.Pressings = roomy(r.Press.Pressings, api.Pressing{Id: 77, Press: 1})
	r.Press.Weighings = roomy(r.Press.Weighings, oil(77, 1, 7, 7))
	r.Men, r.Shifts, r.Notes = roomy(r.Men, 77), roomy(r.Shifts, api.Shift{Pressing: 77}), roomy(r.Notes, note(77, was(7, 7), was(7, 7)))
	return r
}

func roomyArgs() args {
	a := fine()
	a.r, a.contra, a.numbers = roomyRoll(a.r), roomyRoll(a.contra), roomy(a.numbers, 77)
	for i, men := range a.there {
		a.there[i] = roomy(men, 77)
	}
	a.there = roomy(a.there, ints(77))
	return a
}

// wipe clears all lists that some things have.
func wipe(l []any) {
	for _, x := range l {
		switch y := x.(type) {
		case []int:
			clear(y)
		case [][]int:
			for _, z := range y {
				clear(z)
			}
			clear(y)
		case []api.Pressing:
			clear(y)
		case []api.Weighing:
			clear(y)
		case []api.Shift:
			clear(y)
		case []api.Note:
			clear(y)
		case api.Roll:
			wipe(rollLists(y))
		}
	}
}

// TestMemory checks P1 (R3): arguments are left as they are, also behind their ends, calls do not depend on those before, and results are new memory.
func TestMemory(t *testing.T) {
	for _, f := range calls() {
		for _, none := range []bool{false, true} {
			a := roomyArgs()
			if none {
				a.numbers, a.note.Number = nil, 9
			}
			kept := fmt.Sprint(argLists(a))
			before, _ := f.run(a)
			text := fmt.Sprint(before)
			again, _ := f.run(a)
			if !reflect.DeepEqual(before, again) {
				t.Error(f.name, before, again)
			}
			if fmt.Sprint(argLists(a)) != kept {
				t.Error(f.name, "writes to its arguments")
			}
			wipe(argLists(a))
			wipe(again)
			if fmt.Sprint(before) != text {
				t.Error(f.name, "shares memory")
			}
		}
	}
}

// TestApart checks P1 (R3): lists of one result share no memory, also behind their ends.
func TestApart(t *testing.T) {
	l, _ := turn.Truth(with(blank(4, 4), was(1, 1), was(1, 1), was(2, 1), was(2, 1), was(3, 2), was(3, 2), was(1, 4), was(1, 4)))
	_, down, up, _ := turn.Clash(contradicted())
	l = append(l, down, up)
	text := fmt.Sprint(l)
	for i, x := range l {
		kept := slices.Clone(x)
		for k := range full(x) {
			full(x)[k] = -1
		}
		copy(x, kept)
		if fmt.Sprint(l) != text {
			t.Fatal(i, l, text)
		}
	}
}

// TestEmpty checks P1 (R4), P9.2 and P9.6: nil is as good as empty, and a roll without men, or without shifts, has one truth, in which nobody gets anything.
func TestEmpty(t *testing.T) {
	idle := blank(3, 0)
	idle.Press = pressings(1, 2)
	empties := api.Roll{Men: []int{}, Shifts: []api.Shift{}, Notes: []api.Note{}}
	for _, r := range []api.Roll{{}, empties, idle, blank(0, 2)} {
		there := make([][]int, len(r.Shifts))
		if n, e := turn.Count(r); n != 1 || e != api.OK {
			t.Error(r, n, e)
		}
		if l, e := turn.Truth(r); !sameNames(l, there) || e != api.OK {
			t.Error(r, l, e)
		}
		if s, e := turn.Whole(r); s != (api.Span{}) || e != api.OK {
			t.Error(r, s, e)
		}
		if l, e := turn.Paid(r, there); !slices.Equal(l, make([]int, len(r.Men))) || e != api.OK {
			t.Error(r, l, e)
		}
		if l, e := turn.Wrong(r); len(l) > 0 || e != api.OK {
			t.Error(r, l, e)
		}
		for _, man := range r.Men {
			if s, e := turn.Pay(r, man); s != (api.Span{}) || e != api.OK {
				t.Error(r, s, e)
			}
		}
	}
	if l, e := turn.Paid(example(), [][]int{{}, nil}); !slices.Equal(l, ints(0, 0, 0)) || e != api.OK {
		t.Error(l, e)
	}
	for _, l := range [][]int{nil, {}} {
		if r, e := turn.Strike(example(), l); !reflect.DeepEqual(r, example()) || e != api.OK {
			t.Error(r, e)
		}
	}
	if l, e := turn.Chain(example(), was(1, 1), was(1, 1)); len(l) > 0 || e != api.OK {
		t.Error(l, e)
	}
}
