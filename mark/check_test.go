package mark_test

import (
	"fmt"
	"math"
	"reflect"
	"slices"
	"testing"

	"oilcake/api"
	"oilcake/mark"
)

// args are the arguments of all functions.
type args struct {
	m                               api.Marks
	batch, mark, kind, buyer, stack int
	x                               api.Trial
	p                               api.Press
}

// fine are arguments with which no function returns an error.
func fine() args {
	m := example(trial(1, 1, 2, true), trial(5, 2, 1, true), trial(7, 3, 3, false))
	m.Batches[2].Round = api.KnownNo
	return args{m: m, batch: 5, mark: 1, kind: 2, buyer: 70, stack: 2, x: trial(6, 5, 2, false), p: pressed(api.Span{Lo: 0, Hi: 5})}
}

// pressed is the pressings 1, 2 and so on, one for each weighing of their parings, all of which go to the last one, whose own go nowhere.
func pressed(parings ...api.Span) api.Press {
	last := len(parings) + 1
	p := api.Press{Pressings: []api.Pressing{}}
	for i, s := range parings {
		p.Pressings = append(p.Pressings, api.Pressing{Id: i + 1, Press: 1, To: last})
		p.Weighings = append(p.Weighings, api.Weighing{Number: i + 1, Pressing: i + 1, Kind: api.WeighParings, Ounces: s})
	}
	p.Pressings = append(p.Pressings, api.Pressing{Id: last, Press: 1})
	return p
}

// fault is an error, and all that is done to arguments to lead to it.
type fault struct {
	e  api.Errno
	by []func(a *args)
}

// far are numbers that nothing allows.
func far() []int {
	return []int{-1, -2, math.MinInt, math.MinInt + 1, math.MaxInt, math.MaxInt - 1, math.MinInt32, math.MaxInt32, math.MaxUint32 + 1, math.MaxUint32 + 2, math.MinInt / 2, math.MaxInt/2 + 1}
}

// each are changes of arguments by numbers that nothing allows, and by some more.
func each(set func(a *args, n int), more ...int) []func(a *args) {
	var by []func(a *args)
	for _, n := range append(far(), more...) {
		by = append(by, func(a *args) { set(a, n) })
	}
	return by
}

func badBatches() []func(a *args) {
	return slices.Concat(
		each(func(a *args, n int) { a.m.Batches[0].Id = n }, 0, 2, 3, 10000),
		each(func(a *args, n int) { a.m.Batches[3].Id = n }, 0, 2, 3, 5, 10000),
		each(func(a *args, n int) { a.m.Batches[1].Kind = n }, 0, 5),
		each(func(a *args, n int) { a.m.Batches[1].Stone = n }, 0, 4),
		each(func(a *args, n int) { a.m.Batches[2].From = n }, 3, 4, 5, 6, 10000),
		each(func(a *args, n int) { a.m.Batches[0].From = n }, 1, 2),
		each(func(a *args, n int) { a.m.Batches[1].Mark = n }, 5),
		each(func(a *args, n int) { a.m.Batches[3].Cakes = n }, 0, 101),
		[]func(a *args){
			func(a *args) { a.m.Batches[1].Clean = 3 },
			func(a *args) { a.m.Batches[1].Clean = 255 },
			func(a *args) { a.m.Batches[2].Round = 3 },
			func(a *args) { a.m.Batches[2].Round = 255 },
			func(a *args) { a.m.Batches[4].Round = api.KnownOpen },
			func(a *args) { a.m.Batches[4].Round = api.KnownYes },
			func(a *args) { a.m.Batches[2].From, a.m.Batches[2].Round = 0, api.KnownYes },
			func(a *args) { a.m.Batches = nil },
			func(a *args) { a.m = with(line(make([]int, 11)...), ones) },
			func(a *args) { a.m.Batches = make([]api.Batch, 100000) },
			func(a *args) { slices.Reverse(a.m.Batches) },
			func(a *args) { a.m = opened(9) },
		},
	)
}

// ones makes linseed of all batches.
func ones(m *api.Marks) {
	for i := range m.Batches {
		m.Batches[i].Kind = api.KindLinseed
	}
}

// opened is marks with so many things that are open.
func opened(n int) api.Marks {
	m := with(line(make([]int, 10)...), ones)
	for i := range m.Batches {
		if i > 0 {
			m.Batches[i].From = i
		}
		for _, known := range []*uint8{&m.Batches[i].Clean, &m.Batches[i].Round} {
			if n > 0 && (i > 0 || known == &m.Batches[i].Clean) {
				*known = api.KnownOpen
				n--
			}
		}
	}
	return m
}

func badTrials() []func(a *args) {
	return slices.Concat(
		each(func(a *args, n int) { a.m.Trials[0].Number = n }, 0, 5, 6, 7, 10000),
		each(func(a *args, n int) { a.m.Trials[2].Number = n }, 0, 4, 5, 10000),
		each(func(a *args, n int) { a.m.Trials[1].Batch = n }, 0, 6, 9999),
		each(func(a *args, n int) { a.m.Trials[1].Kind = n }, 0, 5),
		[]func(a *args){
			func(a *args) { a.m.Trials = true17()[:17] },
			func(a *args) { a.m.Trials = make([]api.Trial, 100000) },
			func(a *args) { slices.Reverse(a.m.Trials) },
		},
	)
}

// true17 are 17 trials that are true, with the Numbers 11, 12 and so on.
func true17() []api.Trial {
	var l []api.Trial
	for i := range 17 {
		l = append(l, trial(11+i, 1, 2, true))
	}
	return l
}

func badSteps() []func(a *args) {
	return slices.Concat(
		each(func(a *args, n int) { a.m.Steps[0].Stack = n }, 0, 3),
		each(func(a *args, n int) { a.m.Steps[2].Stack = n }, 0, 2, 3),
		each(func(a *args, n int) { a.m.Steps[0].Batch = n }, 0, 6, 9999),
		each(func(a *args, n int) { a.m.Steps[0].Buyer = n }, 1, 70),
		each(func(a *args, n int) { a.m.Steps[2].Buyer = n }, 0, 10000),
		each(func(a *args, n int) { a.m.Steps[2].Batch = n }, 1, 2),
		each(func(a *args, n int) { a.m.Steps[0].Cakes = n }, 0, 21, 100, 101), // 2 has 20 cakes
		each(func(a *args, n int) { a.m.Steps[2].Cakes = n }, 0, 5, 16, 101),   // 72 takes 11 of 15 later
		each(func(a *args, n int) { a.m.Steps[5].Cakes = n }, 0, 13),
		each(func(a *args, n int) { a.m.Steps[1].Cakes = n }, 1, 3, 7), // 3 has 10, of which 4 are put elsewhere
		[]func(a *args){
			func(a *args) { a.m.Tops = nil },
			func(a *args) { a.m.Tops = a.m.Tops[:1] },
			func(a *args) { a.m.Tops = make([]bool, 4) },
			func(a *args) { a.m.Tops = make([]bool, 100000) },
			func(a *args) { a.m.Steps = small(25) },
			func(a *args) { a.m.Steps = make([]api.Step, 100000) },
			func(a *args) { slices.Reverse(a.m.Steps) },
			func(a *args) { a.m.Steps = []api.Step{take(1, 70, 1), put(1, 2, 1)} },
			func(a *args) { a.m.Steps = append(a.m.Steps, put(1, 2, 10), put(1, 2, 1)) },
			func(a *args) { a.m.Steps = append(a.m.Steps, take(1, 73, 2)) },
			func(a *args) { a.m.Steps = []api.Step{put(1, 2, 5), take(2, 70, 1)} },
			func(a *args) { a.m.Steps[0].Cakes, a.m.Steps[1].Cakes = math.MaxInt, math.MaxInt },
		},
	)
}

// small are so many steps that put a cake.
func small(n int) []api.Step {
	return slices.Repeat([]api.Step{put(1, 2, 1), take(1, 7, 1)}, n)[:n]
}

func badMarks() fault {
	return fault{api.ErrMarks, slices.Concat(badBatches(), badTrials(), badSteps())}
}

func noBatch() fault {
	return fault{api.ErrNone, each(func(a *args, n int) { a.batch = n }, 0, 6, 9999)}
}

func badMark() fault {
	return fault{api.ErrArg, each(func(a *args, n int) { a.mark = n }, 0, 5)}
}

func badBrand() fault {
	return fault{api.ErrArg, each(func(a *args, n int) { a.mark = n }, 5)}
}

func badKind() fault {
	return fault{api.ErrArg, each(func(a *args, n int) { a.kind = n }, 0, 5)}
}

func badBuyer() fault {
	return fault{api.ErrArg, each(func(a *args, n int) { a.buyer = n }, 0, 10000)}
}

func badStack() fault {
	return fault{api.ErrArg, each(func(a *args, n int) { a.stack = n }, 0, 3, 4)}
}

func noTruth() fault {
	return fault{api.ErrBad, []func(a *args){
		func(a *args) { a.m.Trials = []api.Trial{trial(1, 1, 1, true)} },
		func(a *args) { a.m.Trials = []api.Trial{trial(1, 2, 2, true), trial(2, 2, 2, false)} },
		func(a *args) { a.m.Trials = []api.Trial{trial(1, 2, 2, true), trial(9999, 5, 2, false)} },
		func(a *args) { a.m.Trials = []api.Trial{trial(1, 4, 3, false)} },
	}}
}

func noWay() fault {
	return fault{api.ErrNone, []func(a *args){
		func(a *args) { a.kind = 3 },
		func(a *args) { a.kind = 4 },
		func(a *args) { a.batch, a.kind = 4, 2 },
		func(a *args) { a.m.Trials = []api.Trial{trial(1, 2, 2, false)} },
	}}
}

func noClean() fault {
	return fault{api.ErrNone, []func(a *args){
		func(a *args) { a.m.Batches[2].Round = api.KnownOpen },
		func(a *args) { a.m.Batches[2].Round = api.KnownYes },
		func(a *args) { a.m.Batches[3].Mark = 1 },
		func(a *args) { a.m.Batches[0].Mark = 1 },
	}}
}

func tooMany() fault {
	return fault{api.ErrMany, []func(a *args){
		func(a *args) {
			a.m.Trials = []api.Trial{trial(1, 1, 1, true), trial(2, 1, 1, true), trial(3, 1, 2, false), trial(4, 4, 3, false)}
		},
		func(a *args) {
			a.m.Trials = true17()[:16]
			for i := range a.m.Trials {
				a.m.Trials[i].Found = i%2 == 0
			}
		},
	}}
}

func fullTrials() fault {
	return fault{api.ErrFull, []func(a *args){func(a *args) { a.m.Trials = true17()[:16] }}}
}

func badTrial() fault {
	return fault{api.ErrTrial, slices.Concat(
		each(func(a *args, n int) { a.x.Number = n }, 0, 1, 5, 7, 10000),
		each(func(a *args, n int) { a.x.Batch = n }, 0, 6),
		each(func(a *args, n int) { a.x.Kind = n }, 0, 5),
	)}
}

func badPress() fault {
	return fault{api.ErrPress, slices.Concat(
		each(func(a *args, n int) { a.p.Pressings[0].Id = n }, 0, 10000),
		each(func(a *args, n int) { a.p.Pressings[0].To = n }, 1, 9999),
		each(func(a *args, n int) { a.p.Weighings[0].Ounces.Hi = n }, 1000001),
		[]func(a *args){func(a *args) { a.p.Pressings = make([]api.Pressing, 100000) }},
	)}
}

func noPress() fault {
	return fault{api.ErrBad, []func(a *args){
		func(a *args) {
			a.p.Weighings = []api.Weighing{{Number: 1, Pressing: 1, Kind: api.WeighOil, Ounces: span(1, 2)}, {Number: 2, Pressing: 1, Kind: api.WeighOil, Ounces: span(3, 4)}}
		},
		func(a *args) {
			a.p.Weighings = []api.Weighing{{Number: 1, Pressing: 2, Kind: api.WeighParings, Ounces: span(1, 1)}}
		},
	}}
}

func tooOpen() fault {
	return fault{api.ErrMarks, []func(a *args){
		func(a *args) {
			a.m = opened(8)
			a.m.Batches[1].Round = api.KnownYes
			a.m.Batches[9].Clean = api.KnownOpen
		},
		func(a *args) {
			a.m = with(opened(0), func(m *api.Marks) {
				for i := range 8 {
					m.Batches[i].Clean = api.KnownOpen
				}
			})
		},
	}}
}

// call is a function with the faults that it names, in their order.
type call struct {
	name   string
	run    func(a args) ([]any, api.Errno)
	faults []fault
}

func one[T any](x T, e api.Errno) ([]any, api.Errno) { return []any{x}, e }

func calls() []call {
	return []call{
		{"Check", func(a args) ([]any, api.Errno) { return nil, mark.Check(a.m) }, []fault{badMarks()}},
		{"Holds", func(a args) ([]any, api.Errno) { return one(mark.Holds(a.m)) }, []fault{badMarks()}},
		{"May", func(a args) ([]any, api.Errno) { return one(mark.May(a.m, a.batch)) }, []fault{badMarks(), noBatch(), noTruth()}},
		{"Must", func(a args) ([]any, api.Errno) { return one(mark.Must(a.m, a.batch)) }, []fault{badMarks(), noBatch(), noTruth()}},
		{"Pure", func(a args) ([]any, api.Errno) { return one(mark.Pure(a.m, a.batch)) }, []fault{badMarks(), noBatch(), noTruth()}},
		{"Mark", func(a args) ([]any, api.Errno) { return one(mark.Mark(a.m, a.mark)) }, []fault{badMarks(), badMark(), noTruth()}},
		{"Bad", func(a args) ([]any, api.Errno) { return one(mark.Bad(a.m, a.mark)) }, []fault{badMarks(), badMark(), noTruth()}},
		{"Way", func(a args) ([]any, api.Errno) { return one(mark.Way(a.m, a.batch, a.kind)) }, []fault{badMarks(), noBatch(), badKind(), noTruth(), noWay()}},
		{"Clean", func(a args) ([]any, api.Errno) { return one(mark.Clean(a.m, a.mark)) }, []fault{badMarks(), badMark(), noTruth(), noClean()}},
		{"Tests", func(a args) ([]any, api.Errno) { return one(mark.Tests(a.m, a.mark)) }, []fault{badMarks(), badMark(), noTruth()}},
		{"False", func(a args) ([]any, api.Errno) { return one(mark.False(a.m)) }, []fault{badMarks(), tooMany()}},
		{"Has", func(a args) ([]any, api.Errno) { return one(mark.Has(a.m, a.buyer, a.batch)) }, []fault{badMarks(), noBatch(), badBuyer()}},
		{"Stays", func(a args) ([]any, api.Errno) { return one(mark.Stays(a.m, a.stack, a.batch)) }, []fault{badMarks(), noBatch(), badStack()}},
		{"Warn", func(a args) ([]any, api.Errno) { return one(mark.Warn(a.m, a.mark)) }, []fault{badMarks(), badMark(), noTruth()}},
		{"Sure", func(a args) ([]any, api.Errno) { return one(mark.Sure(a.m, a.mark)) }, []fault{badMarks(), badMark(), noTruth()}},
		{"Try", func(a args) ([]any, api.Errno) { return one(mark.Try(a.m, a.x)) }, []fault{badMarks(), fullTrials(), badTrial()}},
		{"Brand", func(a args) ([]any, api.Errno) { return one(mark.Brand(a.m, a.batch, a.mark)) }, []fault{badMarks(), noBatch(), badBrand()}},
		{"Led", func(a args) ([]any, api.Errno) { return one(mark.Led(a.m, a.p)) }, []fault{badMarks(), badPress(), noPress(), tooOpen()}},
	}
}

func zero(l []any) bool {
	for _, x := range l {
		v := reflect.ValueOf(x)
		if !v.IsZero() && !(v.Kind() == reflect.Slice && v.Len() == 0) {
			return false
		}
	}
	return true
}

// spoilt are arguments with a fault, and with some of those behind it. These come first: what is checked first counts.
func spoilt(f call, i, k, more int) args {
	a := fine()
	for j := len(f.faults) - 1; j > i; j-- {
		if more>>(j-i-1)&1 == 1 {
			behind := f.faults[j].by
			behind[k%len(behind)](&a)
		}
	}
	if i == 0 { // marks that were spoilt behind have other things to spoil
		a.m = fine().m
	}
	f.faults[i].by[k](&a)
	return a
}

// TestErrors checks P6.1 and P1 (R1, R2, R5, R6, R7), and the errors of P6.2 to P6.8: each fault leads to its error, whatever other faults come behind it, and all results are zero values then.
func TestErrors(t *testing.T) {
	for _, f := range calls() {
		if _, e := f.run(fine()); e != api.OK {
			t.Errorf("%s: %d without a fault", f.name, e)
		}
		for i, x := range f.faults {
			for k := range x.by {
				for more := range 1 << (len(f.faults) - i - 1) {
					a := spoilt(f, i, k, more)
					if l, e := f.run(a); e != x.e || !zero(l) {
						t.Errorf("%s, fault %d.%d (%b): %d, want %d, results %v of %v", f.name, i, k, more, e, x.e, l, a)
					}
				}
			}
		}
	}
}

// TestNoTruth checks P6.1: marks without a truth are valid, and what does not ask for truths works on them.
func TestNoTruth(t *testing.T) {
	for k, by := range noTruth().by {
		a := fine()
		by(&a)
		a.x.Number = 12
		if is, e := mark.Holds(a.m); is || e != api.OK {
			t.Error(k, is, e)
		}
		if l, e := mark.False(a.m); len(l) != 1 || e != api.OK {
			t.Error(k, l, e)
		}
		if s, e := mark.Has(a.m, 70, 2); s != span(0, 3) || e != api.OK {
			t.Error(k, s, e)
		}
		if s, e := mark.Stays(a.m, 2, 3); s != span(3, 3) || e != api.OK {
			t.Error(k, s, e)
		}
		if m, e := mark.Try(a.m, a.x); len(m.Trials) != len(a.m.Trials)+1 || e != api.OK {
			t.Error(k, m, e)
		}
		if m, e := mark.Brand(a.m, 5, 4); m.Batches[4].Mark != 4 || e != api.OK {
			t.Error(k, m, e)
		}
		if m, e := mark.Led(a.m, a.p); m.Batches[1].From != 1 || e != api.OK {
			t.Error(k, m, e)
		}
	}
}

// TestMarksValid checks P6.1 and R6: marks at the ends of what is allowed are valid, those behind them not.
func TestMarksValid(t *testing.T) {
	ends := api.Marks{Batches: []api.Batch{
		{Id: 1, Kind: 1, Stone: 1, Cakes: 1},
		{Id: 9999, Kind: 4, Stone: 3, Clean: api.KnownYes, From: 1, Round: api.KnownYes, Mark: 4, Cakes: 100},
	}}
	ends.Trials = []api.Trial{trial(1, 1, 1, true), trial(9999, 9999, 4, false)}
	ends.Tops = []bool{false, true, false}
	ends.Steps = []api.Step{put(1, 1, 1), put(3, 9999, 100), take(3, 9999, 100), take(1, 1, 1)}
	for i, m := range []api.Marks{
		{}, {Tops: make([]bool, 3)}, example(), ends, opened(8), opened(0),
		with(example(), func(m *api.Marks) { m.Batches[2].Round = api.KnownNo }),
		with(example(), func(m *api.Marks) { m.Batches[4].From = 4 }),
		with(example(), func(m *api.Marks) { m.Trials = true17()[:16] }),
		with(example(), func(m *api.Marks) { m.Steps = small(24) }),
		with(example(), func(m *api.Marks) { m.Steps = append(m.Steps, take(1, 73, 1)) }),
		with(example(), func(m *api.Marks) { m.Steps = append(m.Steps, put(1, 2, 10)) }),
		with(line(make([]int, 10)...), ones),
		{Batches: ends.Batches, Steps: nil, Tops: []bool{}},
		tried(ends, trial(1, 1, 1, true), trial(2, 1, 1, false)),
	} {
		if e := mark.Check(m); e != api.OK {
			t.Error(i, m, e)
		}
	}
	for i, m := range []api.Marks{
		{Batches: []api.Batch{{}}}, {Trials: []api.Trial{{}}}, {Steps: []api.Step{{}}}, {Tops: make([]bool, 4)},
		{Trials: []api.Trial{trial(1, 1, 1, true)}},
		{Tops: []bool{true}, Steps: []api.Step{put(1, 1, 1)}},
		{Tops: []bool{true}, Steps: []api.Step{take(1, 1, 1)}},
		{Tops: []bool{true}, Steps: []api.Step{{Stack: 1, Cakes: 1}}},
		with(ends, func(m *api.Marks) { m.Tops = m.Tops[:2] }),
		with(ends, func(m *api.Marks) { m.Steps[3] = take(1, 1, 2) }),
		with(ends, func(m *api.Marks) { m.Steps = append(m.Steps, put(2, 1, 1)) }),
		with(ends, func(m *api.Marks) { m.Steps = append(m.Steps, take(2, 1, 1)) }),
		with(ends, func(m *api.Marks) { m.Steps[0].Buyer = 5 }),
		with(ends, func(m *api.Marks) { m.Batches[1].Id = 1 }),
		with(ends, func(m *api.Marks) { m.Batches[1].From = 9999 }),
		with(ends, func(m *api.Marks) { m.Trials[1].Number = 1 }),
		opened(9), opened(19), tried(ends, true17()...),
		with(example(), func(m *api.Marks) { m.Steps = small(25) }),
		with(line(make([]int, 11)...), ones),
	} {
		if e := mark.Check(m); e != api.ErrMarks {
			t.Error(i, m, e)
		}
	}
}

// stuffed is a list with room behind its end, in which something else lies.
func stuffed[T any](l []T, other T) []T {
	k := append(slices.Clone(l), other, other)
	return k[:len(l)]
}

// TestMemory checks P1 (R3): arguments are left as they are, also behind their ends, calls do not depend on those before, and results are new memory.
func TestMemory(t *testing.T) {
	for _, f := range calls() {
		a := fine()
		a.m.Batches, a.m.Trials = stuffed(a.m.Batches, api.Batch{Id: 77}), stuffed(a.m.Trials, trial(77, 7, 7, true))
		a.m.Tops, a.m.Steps = stuffed(a.m.Tops, true), stuffed(a.m.Steps, put(7, 7, 7))
		a.p.Pressings, a.p.Weighings = stuffed(a.p.Pressings, api.Pressing{Id: 77}), stuffed(a.p.Weighings, api.Weighing{Number: 77})
		batches, trials, tops, steps := a.m.Batches[:7], a.m.Trials[:5], a.m.Tops[:4], a.m.Steps[:9]
		pressings, weighings := a.p.Pressings[:4], a.p.Weighings[:3]
		kept := fmt.Sprint(batches, trials, tops, steps, pressings, weighings)
		before, _ := f.run(a)
		text := fmt.Sprint(before)
		again, _ := f.run(a)
		if !reflect.DeepEqual(before, again) {
			t.Error(f.name, before, again)
		}
		if fmt.Sprint(batches, trials, tops, steps, pressings, weighings) != kept {
			t.Error(f.name, "writes to its arguments")
		}
		clear(batches)
		clear(trials)
		clear(tops)
		clear(steps)
		clear(pressings)
		clear(weighings)
		wipe(again)
		if fmt.Sprint(before) != text {
			t.Error(f.name, "shares memory")
		}
	}
}

// wipe clears all lists of results.
func wipe(l []any) {
	for _, x := range l {
		switch y := x.(type) {
		case []int:
			clear(y)
		case api.Marks:
			clear(y.Batches)
			clear(y.Trials)
			clear(y.Tops)
			clear(y.Steps)
		}
	}
}

// TestEmpty checks P1 (R4) and P6.1 to P6.8: nil is as good as empty; marks without batches have one truth, in which all marks are pure.
func TestEmpty(t *testing.T) {
	wants := map[string]string{
		"Check": "[] 0", "Holds": "[true] 0", "May": "[[]] 6", "Must": "[[]] 6", "Pure": "[0] 6", "Mark": "[2] 0", "Bad": "[[]] 0", "Way": "[[]] 6", "Clean": "[[]] 0", "Tests": "[[]] 0", "False": "[[]] 0",
		"Has": "[{0 0}] 6", "Stays": "[{0 0}] 6", "Warn": "[[]] 0", "Sure": "[[]] 0", "Try": "[{[] [] [] []}] 61", "Brand": "[{[] [] [] []}] 6", "Led": "[{[] [] [] []}] 0",
	}
	for _, m := range []api.Marks{{}, {Batches: []api.Batch{}, Trials: []api.Trial{}, Tops: []bool{}, Steps: []api.Step{}}} {
		for _, p := range []api.Press{{}, {Pressings: []api.Pressing{}, Weighings: []api.Weighing{}}} {
			for _, f := range calls() {
				l, e := f.run(args{m: m, batch: 1, mark: 1, kind: 1, buyer: 1, stack: 1, x: trial(1, 1, 1, true), p: p})
				if got := fmt.Sprint(l, int(e)); got != wants[f.name] {
					t.Error(f.name, got)
				}
			}
		}
	}
}
