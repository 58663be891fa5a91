package sample_test

import (
	"math"
	"reflect"
	"slices"
	"testing"

	"oilcake/api"
	"oilcake/sample"
)

// args are the arguments of all functions.
type args struct {
	c             api.Cargo
	d             api.Draw
	r             api.Rule
	x             api.Double
	dirty         int
	good, bad     int
	opened        int
	p             api.Part
	seller, buyer api.Part
	l             []api.Term
}

// fine are arguments with which no function returns an error.
func fine() args {
	return args{c: some(10, 2, 8), d: draw(4, 1), r: rule(3, 1), x: double(3, 0, 2, 2, 2), dirty: 4, good: 3, bad: 6, opened: 5, p: part(1, 2), seller: part(1, 3), buyer: part(2, 4), l: terms(5, 100, 10, 300)}
}

// fault is an error, and all that is done to arguments to lead to it.
type fault struct {
	e  api.Errno
	by []func(a *args)
}

// far are numbers that nothing allows.
func far() []int {
	return []int{-1, -2, math.MinInt, math.MinInt + 1, math.MaxInt, math.MaxInt - 1, math.MinInt32, math.MaxInt32, math.MaxUint32 + 1, math.MinInt / 2, math.MaxInt/2 + 1}
}

// each are changes of arguments by numbers that nothing allows, and by some more.
func each(set func(a *args, n int), more ...int) []func(a *args) {
	var l []func(a *args)
	for _, n := range append(far(), more...) {
		l = append(l, func(a *args) { set(a, n) })
	}
	return l
}

func badCargo() fault {
	return fault{api.ErrCargo, slices.Concat(
		each(func(a *args, n int) { a.c.Bags = n }, 0, 7, 37),
		each(func(a *args, n int) { a.c.Dirty.Lo = n }, 9, 10),
		each(func(a *args, n int) { a.c.Dirty.Hi = n }, 0, 1, 11),
		each(func(a *args, n int) { a.c = api.Cargo{Bags: n, Dirty: span(n, n)} }, 0, 37),
		each(func(a *args, n int) { a.c = api.Cargo{} }),
	)}
}

func badDraw(most int) fault {
	return fault{api.ErrDraw, slices.Concat(
		each(func(a *args, n int) { a.d = draw(n, 1) }, 0, most+1),
		each(func(a *args, n int) { a.d = draw(4, n) }, 5, most),
		each(func(a *args, n int) { a.d = draw(n, n) }, most+1),
	)}
}

func badRule() fault {
	return fault{api.ErrRule, slices.Concat(
		each(func(a *args, n int) { a.r = rule(n, 1) }, 0, 11),
		each(func(a *args, n int) { a.r = rule(3, n) }, 4, 10),
		each(func(a *args, n int) { a.r = rule(n, n) }, 11),
	)}
}

func badDouble() fault {
	return fault{api.ErrRule, slices.Concat(
		each(func(a *args, n int) { a.x.First = n }, 0, 9, 11),
		each(func(a *args, n int) { a.x.Second = n }, 8, 10),
		each(func(a *args, n int) { a.x.Accept = n }, 2, 3, 4),
		each(func(a *args, n int) { a.x.Refuse = n }, 0, 5),
		each(func(a *args, n int) { a.x.Total = n }, 5),
		each(func(a *args, n int) { a.x = double(n, n, n, n, n) }, 0),
		each(func(a *args, n int) { a.x = double(3, 1, 2, 2, n) }, 0, 5),
	)}
}

func badDirty() fault {
	return fault{api.ErrArg, each(func(a *args, n int) { a.dirty = n }, 0, 1, 9)}
}

func badSides() fault {
	return fault{api.ErrArg, slices.Concat(
		each(func(a *args, n int) { a.good = n }, 1, 9),
		each(func(a *args, n int) { a.bad = n }, 1, 9),
	)}
}

func notLess() fault {
	return fault{api.ErrArg, []func(a *args){
		func(a *args) { a.good, a.bad = 6, 6 },
		func(a *args) { a.good, a.bad = 7, 6 },
		func(a *args) { a.good, a.bad = 8, 2 },
	}}
}

func badOpened() fault {
	return fault{api.ErrArg, each(func(a *args, n int) { a.opened = n }, 11)}
}

func badPart(of func(a *args) *api.Part) fault {
	return fault{api.ErrChance, slices.Concat(
		each(func(a *args, n int) { *of(a) = part(n, 2) }, 3, 1001),
		each(func(a *args, n int) { *of(a) = part(1, n) }, 0, 1001),
		each(func(a *args, n int) { *of(a) = part(n, n) }, 0, 1001),
	)}
}

func badChance() fault { return badPart(func(a *args) *api.Part { return &a.p }) }

func badRisks() fault {
	f := badPart(func(a *args) *api.Part { return &a.seller })
	f.by = append(f.by, badPart(func(a *args) *api.Part { return &a.buyer }).by...)
	return f
}

func badTerms() fault {
	return fault{api.ErrTerms, slices.Concat(
		each(func(a *args, n int) { a.l = terms(n, 100) }, 0, 101),
		each(func(a *args, n int) { a.l = terms(5, n) }, 1000001),
		each(func(a *args, n int) { a.l = terms(5, 1, n, 2) }, 0, 4, 5, 101),
		each(func(a *args, n int) { a.l = terms(5, 10, 6, n) }, 0, 9),
		each(func(a *args, n int) { a.l = terms(1, 0, 2, 0, 3, 0, 4, 0, 5, n) }),
		each(func(a *args, n int) { a.l = terms(1, 0, 2, 0, 3, 0, 4, 0, 5, 0, 6, 0) }),
		each(func(a *args, n int) { a.l = make([]api.Term, 100000) }),
	)}
}

func badPence() fault {
	return fault{api.ErrArg, slices.Concat(
		each(func(a *args, n int) { a.dirty = n }, 1000001),
		each(func(a *args, n int) { a.good = n }, 1000001),
		each(func(a *args, n int) { a.bad = n }, 1000001),
	)}
}

// setDraw is the fault that a draw leads to.
func setDraw(e api.Errno, opened, found int) fault {
	return fault{e, []func(a *args){func(a *args) { a.d = draw(opened, found) }}}
}

func setChance(e api.Errno, dirty int, p api.Part) fault {
	return fault{e, []func(a *args){func(a *args) { a.dirty, a.p = dirty, p }}}
}

// call is a function with the faults that it names, in their order.
type call struct {
	name   string
	run    func(a args) ([]any, api.Errno)
	faults []fault
}

func one[T any](x T, e api.Errno) ([]any, api.Errno) { return []any{x}, e }

func calls() []call {
	return []call{
		{"Check", func(a args) ([]any, api.Errno) { return nil, sample.Check(a.c) }, []fault{badCargo()}},
		{"Ways", func(a args) ([]any, api.Errno) { return one(sample.Ways(a.good, a.bad)) }, []fault{{api.ErrArg, slices.Concat(
			each(func(a *args, n int) { a.good = n }, 37),
			each(func(a *args, n int) { a.bad = n }, 8, 37),
			each(func(a *args, n int) { a.good, a.bad = n, n }, 37),
		)}}},
		{"Chance", func(a args) ([]any, api.Errno) { return one(sample.Chance(a.c, a.dirty, a.d)) }, []fault{badCargo(), badDraw(10), badDirty()}},
		{"AtMost", func(a args) ([]any, api.Errno) { return one(sample.AtMost(a.c, a.dirty, a.d)) }, []fault{badCargo(), badDraw(10), badDirty()}},
		{"Mean", func(a args) ([]any, api.Errno) { return one(sample.Mean(a.c, a.dirty, a.opened)) }, []fault{badCargo(), badDirty(), badOpened()}},
		{"Can", func(a args) ([]any, api.Errno) { return one(sample.Can(a.c, a.d)) }, []fault{badCargo(), badDraw(10), setDraw(api.ErrBad, 10, 1)}},
		{"Rest", func(a args) ([]any, api.Errno) { return one(sample.Rest(a.c, a.d)) }, []fault{badCargo(), badDraw(10), setDraw(api.ErrBad, 10, 9), setDraw(api.ErrNone, 10, 8)}},
		{"Likely", func(a args) ([]any, api.Errno) { return one(sample.Likely(a.c, a.d)) }, []fault{badCargo(), badDraw(10), setDraw(api.ErrBad, 9, 0)}},
		{"Bound", func(a args) ([]any, api.Errno) { return one(sample.Bound(a.c, a.d, a.p)) }, []fault{badCargo(), badDraw(10), badChance(), setDraw(api.ErrBad, 9, 9), setChance(api.ErrNone, 4, part(1, 1))}},
		{"Find", func(a args) ([]any, api.Errno) { return one(sample.Find(a.c, a.dirty, a.p)) }, []fault{badCargo(), badDirty(), badChance()}},
		{"Accepts", func(a args) ([]any, api.Errno) { return one(sample.Accepts(a.c, a.r, a.dirty)) }, []fault{badCargo(), badRule(), badDirty()}},
		{"Curve", func(a args) ([]any, api.Errno) { return one(sample.Curve(a.c, a.r)) }, []fault{badCargo(), badRule()}},
		{"Good", func(a args) ([]any, api.Errno) {
			return one(sample.Good(a.c, a.r, a.good, a.bad, a.seller, a.buyer))
		}, []fault{badCargo(), badRule(), badSides(), badRisks(), notLess()}},
		{"Least", func(a args) ([]any, api.Errno) {
			return one(sample.Least(a.c, a.good, a.bad, a.seller, a.buyer))
		}, []fault{badCargo(), badSides(), badRisks(), notLess()}},
		{"Twice", func(a args) ([]any, api.Errno) {
			p, q, e := sample.Twice(a.c, a.x, a.dirty)
			return []any{p, q}, e
		}, []fault{badCargo(), badDouble(), badDirty()}},
		{"Off", func(a args) ([]any, api.Errno) { return one(sample.Off(a.l, a.d)) }, []fault{badTerms(), badDraw(36)}},
		{"Fair", func(a args) ([]any, api.Errno) { return one(sample.Fair(a.c, a.dirty, a.opened, a.l)) }, []fault{badCargo(), badDirty(), badTerms(), badOpened()}},
		{"Award", func(a args) ([]any, api.Errno) { return one(sample.Award(a.dirty, a.good, a.bad)) }, []fault{badPence()}},
	}
}

func zero(l []any) bool {
	for _, x := range l {
		v := reflect.ValueOf(x)
		if !v.IsZero() && !(v.Kind() == reflect.Slice && v.Len() == 0) {
			return false
		}
	}
	return true
}

// TestErrors checks P1.1 and P1 (R1, R2, R5, R6, R7): each fault leads to its error, whatever other faults come behind it, and all results are zero values then.
func TestErrors(t *testing.T) {
	for _, f := range calls() {
		start := fine()
		if f.name == "Ways" {
			start.good, start.bad = 7, 3
		}
		if _, e := f.run(start); e != api.OK {
			t.Errorf("%s: %d without a fault", f.name, e)
		}
		for i, x := range f.faults {
			for k, by := range x.by {
				for more := range 1 << (len(f.faults) - i - 1) {
					a := start
					for j := len(f.faults) - 1; j > i; j-- { // what is checked later is spoilt first: what is checked first counts
						if more>>(j-i-1)&1 == 1 {
							behind := f.faults[j].by
							behind[k%len(behind)](&a)
						}
					}
					by(&a)
					if l, e := f.run(a); e != x.e || !zero(l) {
						t.Errorf("%s, fault %d.%d (%b): %d, want %d, results %v", f.name, i, k, more, e, x.e, l)
					}
				}
			}
		}
	}
}

// TestErrorsBehindResults checks the errors that depend on what is asked: ErrNone of Find (P1.4).
func TestErrorsBehindResults(t *testing.T) {
	if n, e := sample.Find(bags(10), 0, part(1, 1000)); n != 0 || e != api.ErrNone {
		t.Error(n, e)
	}
	if n, e := sample.Find(bags(10), 0, part(0, 1000)); n != 0 || e != api.OK {
		t.Error(n, e)
	}
}

// TestCargo checks P1.1: cargoes at the ends of what is allowed are valid (R6), those behind them not.
func TestCargo(t *testing.T) {
	for n := -2; n <= 40; n++ {
		for lo := -2; lo <= 40; lo++ {
			for hi := -2; hi <= 40; hi++ {
				want := api.ErrCargo
				if n >= 1 && n <= 36 && lo >= 0 && lo <= hi && hi <= n {
					want = api.OK
				}
				if e := sample.Check(some(n, lo, hi)); e != want {
					t.Fatal(n, lo, hi, e)
				}
			}
		}
	}
}

// TestDoubleValid checks P1.1: all double rules, and no other ones, of a small cargo are valid.
func TestDoubleValid(t *testing.T) {
	const n = 3
	c := bags(n)
	for first := -1; first <= n+1; first++ {
		for second := -1; second <= n+1; second++ {
			for accept := -1; accept <= n+1; accept++ {
				for refuse := -1; refuse <= n+2; refuse++ {
					for total := -1; total <= 2*n+2; total++ {
						want := api.ErrRule
						if first >= 0 && second >= 0 && first+second <= n && accept >= 0 && accept <= first && refuse > accept && refuse <= first+1 && total >= accept && total <= refuse+second {
							want = api.OK
						}
						if _, _, e := sample.Twice(c, double(first, accept, refuse, second, total), 1); e != want {
							t.Error(first, accept, refuse, second, total, e)
						}
					}
				}
			}
		}
	}
}

// TestMemory checks P1 (R3, R4): arguments are left as they are, results are new memory, nil is as good as empty.
func TestMemory(t *testing.T) {
	room := terms(5, 100, 10, 300, 30, 1000, 7, 7, 8, 8)
	kept := slices.Clone(room)
	for range 2 {
		if n, e := sample.Off(room[:3], draw(3, 1)); n != 1000 || e != api.OK {
			t.Error(n, e)
		}
		if p, e := sample.Fair(bags(10), 4, 3, room[:3]); p != part(2500, 3) || e != api.OK {
			t.Error(p, e)
		}
	}
	if !slices.Equal(room, kept) {
		t.Error(room)
	}
	for range 2 {
		l, e := sample.Likely(bags(11), draw(3, 1))
		if !slices.Equal(l, []int{3, 4}) || e != api.OK {
			t.Error(l, e)
		}
		clear(l)
		k, e := sample.Curve(some(10, 0, 2), rule(3, 0))
		if !slices.Equal(k, []api.Part{part(1, 1), part(7, 10), part(7, 15)}) || e != api.OK {
			t.Error(k, e)
		}
		clear(k)
	}
	for _, l := range [][]api.Term{nil, {}, room[:0]} {
		if n, e := sample.Off(l, draw(3, 3)); n != 0 || e != api.OK {
			t.Error(n, e)
		}
		if p, e := sample.Fair(bags(10), 4, 3, l); p != part(0, 1) || e != api.OK {
			t.Error(p, e)
		}
	}
}
