package foreman_test

import (
	"fmt"
	"math"
	"math/rand"
	"reflect"
	"slices"
	"strings"
	"testing"

	"oilcake/api"
	"oilcake/foreman"
)

// call is a function with a mill, and perhaps with a text.
type call struct {
	name  string
	texts bool // it returns ErrMany
	run   func(m api.Mill, s string) ([]any, api.Errno)
}

func one[T any](x T, e api.Errno) ([]any, api.Errno) { return []any{x}, e }

func two[T, N any](x T, y N, e api.Errno) ([]any, api.Errno) { return []any{x, y}, e }

func calls() []call {
	return []call{
		{"Check", false, func(m api.Mill, s string) ([]any, api.Errno) { return nil, foreman.Check(m) }},
		{"Sound", false, func(m api.Mill, s string) ([]any, api.Errno) { return one(foreman.Sound(m)) }},
		{"Line", false, func(m api.Mill, s string) ([]any, api.Errno) { return two(foreman.Line(m, s)) }},
		{"Run", true, func(m api.Mill, s string) ([]any, api.Errno) { return two(foreman.Run(m, s)) }},
		{"Denied", true, func(m api.Mill, s string) ([]any, api.Errno) { return one(foreman.Denied(m, s)) }},
		{"Kept", true, func(m api.Mill, s string) ([]any, api.Errno) { return one(foreman.Kept(m, s)) }},
		{"Account", false, func(m api.Mill, s string) ([]any, api.Errno) { return one(foreman.Account(m)) }},
	}
}

// zero reports whether all of some results are zero values; a list may be empty.
func zero(l []any) bool {
	for _, x := range l {
		is := true
		lists(x, func(l reflect.Value) { is = is && l.Len() == 0 })
		if v := reflect.ValueOf(x); !is || v.Kind() != reflect.Slice && text(x) != text(reflect.Zero(v.Type()).Interface()) {
			return false
		}
	}
	return true
}

// far are numbers that nothing allows.
func far(more ...int) []int {
	return append(more, -1, -2, math.MinInt, math.MinInt+1, math.MaxInt, math.MaxInt-1, math.MinInt32, math.MaxInt32, math.MaxUint32+1, math.MinInt/2, math.MaxInt/2+1)
}

// each are mills of which something is a number that is not allowed.
func each(set func(m *api.Mill, n int), more ...int) []func(m *api.Mill) {
	var by []func(m *api.Mill)
	for _, n := range far(more...) {
		by = append(by, func(m *api.Mill) { set(m, n) })
	}
	return by
}

// bad are all that makes parts of a mill not valid.
func bad() []func(m *api.Mill) {
	return slices.Concat(
		each(func(m *api.Mill, n int) { m.Cargo.Bags = n }, 0, 9, 37),
		each(func(m *api.Mill, n int) { m.Cargo.Dirty.Hi = n }, 11),
		each(func(m *api.Mill, n int) { m.Cargo.Dirty.Lo = n }, 11),
		each(func(m *api.Mill, n int) { m.Roll.Press.Pressings[0].Id = n }, 0, 2, 10000),
		each(func(m *api.Mill, n int) { m.Roll.Press.Weighings[0].Kind = n }, 0, 7),
		each(func(m *api.Mill, n int) { m.Roll.Men[0] = n }, 0, 2, 10000),
		each(func(m *api.Mill, n int) { m.Roll.Shifts[1].Pence = n }, 1000001),
		each(func(m *api.Mill, n int) { m.Roll.Notes[3].One.Man = n }, 0, 4),
		each(func(m *api.Mill, n int) { m.Log.Tank.Pints[4] = n }, 60, 601),
		each(func(m *api.Mill, n int) { m.Log.Tank.Leak = n }, 51),
		each(func(m *api.Mill, n int) { m.Log.Start.Lo = n }, 41),
		each(func(m *api.Mill, n int) { m.Log.Entries[1].Kind = n }, 0, 4),
		each(func(m *api.Mill, n int) { m.Plan.From = n }, 3651),
		each(func(m *api.Mill, n int) { m.Plan.Turns[1] = n }, 5),
		each(func(m *api.Mill, n int) { m.Plan.Bursts = n }, 5),
		each(func(m *api.Mill, n int) { m.Plan.Sales[0].Id = n }, 0, 2, 10000),
		each(func(m *api.Mill, n int) { m.Did = []api.Did{{Sort: n}} }, 2, 3),
		each(func(m *api.Mill, n int) { m.Ship.Holds[0].Room = n }, 0, 37),
		each(func(m *api.Mill, n int) { m.Ship.Probes[0].Hold = n }, 0, 3),
		each(func(m *api.Mill, n int) { m.Ship.Limit = n }, 101),
		each(func(m *api.Mill, n int) { m.Marks.Batches[0].Kind = n }, 0, 5),
		each(func(m *api.Mill, n int) { m.Marks.Steps[2].Cakes = n }, 0, 16),
		each(func(m *api.Mill, n int) { m.Watch.Hands = n }, 4),
		each(func(m *api.Mill, n int) { m.Watch.Ricks[0].Waited = n }, 2),
		each(func(m *api.Mill, n int) { m.Cans.Sizes[0] = n }, 0, 21),
		each(func(m *api.Mill, n int) { m.Cans.In[1] = n }, 6),
		each(func(m *api.Mill, n int) { m.Cans.Stock = n }, 601),
		each(func(m *api.Mill, n int) { m.Wheels.Teeth[3] = n }, 5, 121),
		each(func(m *api.Mill, n int) { m.Train[0].Driven = n }, 0, 1, 5),
		[]func(m *api.Mill){
			func(m *api.Mill) { *m = api.Mill{} },
			func(m *api.Mill) { m.Cargo = api.Cargo{} },
			func(m *api.Mill) { m.Log = api.Log{} },
			func(m *api.Mill) { m.Plan = api.Plan{} },
			func(m *api.Mill) { m.Ship = api.Ship{} },
			func(m *api.Mill) { m.Cans = api.Cans{} },
			func(m *api.Mill) { m.Wheels = api.Wheels{} },
			func(m *api.Mill) { m.Train = nil },
			func(m *api.Mill) { m.Train = []api.Pair{} },
			func(m *api.Mill) { m.Train = append(m.Train, api.Pair{Driver: 2, Driven: 3}) },
			func(m *api.Mill) { m.Train = slices.Repeat(m.Train, 100000) },
			did(nothing, nothing, nothing, nothing, nothing, nothing),
			did(coldBurst, coldBurst),
			did(hot),
			did(api.Did{Burst: true}),
			func(m *api.Mill) { m.Did = make([]api.Did, 100000) },
			func(m *api.Mill) { m.Roll.Men = ints(1, 2, 3, 4, 5) },
			func(m *api.Mill) { m.Marks.Tops = make([]bool, 4) },
		},
	)
}

// long are texts that are too long.
func long() []string {
	return []string{
		strings.Repeat("\n", 61), strings.Repeat("press\n", 60) + "press", strings.Repeat("\n", 60) + " ",
		strings.Repeat("x", 40001), strings.Repeat("x", 40000) + "\n", strings.Repeat("press\n", 100000),
	}
}

// TestErrors checks P12.1, P1 (R1, R2, R5, R6, R7), and the errors of P12.4 and P12.5: a mill that is not valid comes first, whatever the text, and whether the roll has a truth.
func TestErrors(t *testing.T) {
	for _, f := range calls() {
		if _, e := f.run(example(), "press"); e != api.OK {
			t.Error(f.name, e)
		}
		for i, by := range bad() {
			for _, m := range []api.Mill{with(by), with(unsound()["roll"], by)} {
				for _, s := range []string{"press", "go", "", long()[0]} {
					if l, e := f.run(m, s); e != api.ErrMill || !zero(l) {
						t.Error(f.name, i, e, l)
					}
				}
			}
		}
		for i, s := range long() {
			want := api.OK
			if f.texts {
				want = api.ErrMany
			}
			if l, e := f.run(example(), s); e != want || f.texts && !zero(l) {
				t.Error(f.name, i, e, l)
			}
		}
	}
}

// TestSound checks P12.1: a mill is sound just if each part is that can be without a truth.
func TestSound(t *testing.T) {
	if is, e := foreman.Sound(example()); !is || e != api.OK {
		t.Error(is, e)
	}
	for part, by := range unsound() {
		m := with(by)
		if is, e := foreman.Sound(m); is || e != api.OK {
			t.Error(part, is, e)
		}
		if e := foreman.Check(m); e != api.OK {
			t.Error(part, e)
		}
		if a, e := foreman.Account(m); part == "roll" && (a != (api.Account{}) || e != api.ErrBad) || part != "roll" && e != api.OK {
			t.Error(part, a, e)
		}
	}
	// a plan that is not sure, and cans in which there is more than the tank holds, are sound
	for _, by := range []func(m *api.Mill){unsure, did(nothing, nothing, nothing, nothing, nothing), low, func(m *api.Mill) { m.Cans.Stock = 0 }} {
		if is, e := foreman.Sound(with(by)); !is || e != api.OK {
			t.Error(is, e)
		}
	}
	least := api.Mill{
		Cargo: api.Cargo{Bags: 1}, Log: api.Log{Tank: api.Tank{Pints: ints(0, 1)}}, Plan: api.Plan{Turns: ints(0)},
		Ship: api.Ship{Holds: []api.Hold{{Id: 1, Room: 1}}}, Cans: api.Cans{Sizes: ints(1), In: ints(0)},
		Wheels: api.Wheels{Teeth: ints(6, 6)}, Train: []api.Pair{{Driver: 2, Driven: 1}},
	}
	if is, e := foreman.Sound(least); !is || e != api.OK {
		t.Error(is, e)
	}
}

// everyLine are lines of all verbs that are not denied for the mill of the examples, and some that are.
func everyLine() []string {
	return []string{
		"draw 3 1", "weigh 16 3 3 70 80", "all 5", "flow 1 6 5 10", "pour 0 2 2 1", "measure 4", "sell 3 1 1 12", "press", "done 1 0", "water 100 30 60 20",
		"probe 2 2 7 2", "hold 1", "test 1 5 2 1", "put 1 2 5", "give 1 70 1", "warn 1", "turn 1", "today", "note 5 1 1 0 2 2 1", "pay 1", "wire", "read " + smallFile,
		"draw 11 0", "weigh 16 3 3 10 20", "flow 3 6 0 0", "pour 2 0", "sell 3 1 2 12", "done 2 0", "water 0 0 0 20", "probe 2 1 0 2", "test 1 1 1 1",
		"put 1 2 11", "give 1 70 2", "turn", "note 5 3 1 1 3 1 1", "read -", "go", "",
	}
}

// TestMemory checks P1 (R3): arguments are left as they are, also behind their ends, calls do not depend on those before, and results are new memory.
func TestMemory(t *testing.T) {
	for _, s := range append(everyLine(), strings.Join(everyLine(), "\n")) {
		for _, f := range calls() {
			m := example()
			m.Did = []api.Did{cold}
			roomy(&m)
			kept := behind(m)
			before, e := f.run(m, s)
			if e != api.OK {
				t.Fatal(f.name, s, e)
			}
			again, _ := f.run(m, s)
			if text(before...) != text(again...) || behind(m) != kept {
				t.Errorf("%s %q: writes to its arguments, or remembers", f.name, s)
			}
			if shared(m, before, again) {
				t.Errorf("%s %q: shares memory", f.name, s)
			}
		}
	}
}

// TestOrderMemory checks P1 (R3) for orders.
func TestOrderMemory(t *testing.T) {
	o := order(api.VerbPour, 0, 2, 2, 1)
	roomy(&o)
	kept := behind(o)
	for range 2 {
		if s, e := foreman.Say(o); s != "pour 0 2 2 1" || e != api.OK || behind(o) != kept {
			t.Error(s, e, o)
		}
		if is, e := foreman.Asks(o); is || e != api.OK || behind(o) != kept {
			t.Error(is, e, o)
		}
		p, e := foreman.Parse("pour 0 2 2 1")
		if !sameOrder(p, o) || e != api.OK {
			t.Error(p, e)
		}
		clear(p.Numbers[:cap(p.Numbers)])
	}
}

// TestOneList checks P1 (R3): lists of a mill that are the same memory are not in what a line leaves.
func TestOneList(t *testing.T) {
	m := example()
	l := ints(6, 6, 6)
	m.Wheels.Teeth, m.Cans.Sizes, m.Cans.In, m.Train = l, l, l, []api.Pair{{Driver: 1, Driven: 2}}
	for _, s := range everyLine() {
		after, _ := line(t, m, s)
		if shared(after) {
			t.Error(s)
		}
	}
}

// TestEmpty checks P1 (R4): nil lists and empty ones are the same.
func TestEmpty(t *testing.T) {
	bare := example()
	bare.Roll, bare.Did, bare.Marks, bare.Watch = api.Roll{}, nil, api.Marks{}, api.Watch{}
	bare.Ship.Lots, bare.Ship.Probes, bare.Log.Entries, bare.Plan.Arrivals, bare.Plan.Sales = nil, nil, nil, nil, nil
	empty := foreman.Twin(bare)
	lists(&empty, func(l reflect.Value) {
		if l.IsNil() {
			l.Set(reflect.MakeSlice(l.Type(), 0, 0))
		}
	})
	if !foreman.Same(bare, empty) || !foreman.Same(empty, bare) {
		t.Error("not the same")
	}
	for _, s := range everyLine() {
		for _, f := range calls() {
			a, e := f.run(bare, s)
			b, g := f.run(empty, s)
			if text(a...) != text(b...) || e != g {
				t.Error(f.name, s, a, e, b, g)
			}
		}
	}
}

// spoil puts some number or other into something of a mill.
func spoil(r *rand.Rand, x any) {
	var l []reflect.Value
	leaves(reflect.ValueOf(x).Elem(), func(v reflect.Value) { l = append(l, v) })
	v := l[r.Intn(len(l))]
	n := int64([]int{r.Intn(4), r.Intn(100), -1, math.MaxInt - r.Intn(2), math.MinInt + r.Intn(2), r.Int(), -r.Int()}[r.Intn(7)])
	switch v.Kind() {
	case reflect.Int:
		v.SetInt(n)
	case reflect.Uint8:
		v.SetUint(uint64(n) & 255)
	case reflect.Bool:
		v.SetBool(!v.Bool())
	}
}

// leaves calls back with all numbers, and all that is so or not, in something.
func leaves(v reflect.Value, f func(v reflect.Value)) {
	switch v.Kind() {
	case reflect.Struct:
		for i := range v.NumField() {
			leaves(v.Field(i), f)
		}
	case reflect.Slice:
		for i := range v.Len() {
			leaves(v.Index(i), f)
		}
	default:
		f(v)
	}
}

// TestAnything checks P1 (R2, R6, R7): whatever a mill and a text hold, each call ends, with zero values if there is an error.
func TestAnything(t *testing.T) {
	counts := map[api.Errno]int{}
	some(3, 3000, func(r *rand.Rand, m api.Mill) {
		for range r.Intn(3) {
			spoil(r, &m)
		}
		s := ""
		for range r.Intn(4) {
			s += someLine(r, m) + "\n"
		}
		for _, f := range calls() {
			l, e := f.run(m, s)
			if e != api.OK && !zero(l) {
				t.Fatal(f.name, m, s, l, e)
			}
			counts[e]++
		}
		if n := foreman.Twin(m); !foreman.Same(m, n) || fmt.Sprint(m) != fmt.Sprint(n) {
			t.Fatal(m, n)
		}
	})
	if counts[api.OK] < 3000 || counts[api.ErrMill] < 3000 || counts[api.ErrBad] < 1 {
		t.Error(counts)
	}
}
