package foreman_test

import (
	"fmt"
	"reflect"
	"testing"

	"oilcake/api"
	"oilcake/foreman"
)

func ints(l ...int) []int { return l }

func span(lo, hi int) api.Span { return api.Span{Lo: lo, Hi: hi} }

func thing(man, pressing int, there bool) api.Thing {
	return api.Thing{Man: man, Pressing: pressing, There: there}
}

// examplePress is the press of layer 2's examples.
func examplePress() api.Press {
	p := api.Press{Pressings: []api.Pressing{{Id: 1, Press: 1, To: 3}, {Id: 2, Press: 1, To: 3}, {Id: 3, Press: 1}}}
	for i, s := range []api.Span{
		span(1000, 1000), span(290, 310), span(500, 520), span(40, 50), span(30, 60),
		span(600, 600), span(170, 180), span(300, 310), span(20, 30), span(20, 40),
		span(0, 0), span(30, 40), span(70, 90), span(5, 10), span(0, 10),
	} {
		p.Weighings = append(p.Weighings, api.Weighing{Number: i + 1, Pressing: 1 + i/5, Kind: 1 + i%5, Ounces: s})
	}
	return p
}

// exampleRoll is the roll of layer 9's examples, with that press.
func exampleRoll() api.Roll {
	return api.Roll{
		Press:  examplePress(),
		Men:    ints(1, 2, 3),
		Shifts: []api.Shift{{Pressing: 1, Pence: 100}, {Pressing: 2, Pence: 50}},
		Notes: []api.Note{
			{Number: 1, One: thing(1, 1, true), Other: thing(2, 1, true)},
			{Number: 2, One: thing(2, 1, false), Other: thing(3, 2, true)},
			{Number: 3, One: thing(1, 2, false), Other: thing(3, 2, false)},
			{Number: 4, One: thing(3, 1, false), Other: thing(3, 1, false)},
		},
	}
}

// exampleLog is the log of layer 3's examples.
func exampleLog() api.Log {
	return api.Log{
		Tank:  api.Tank{Pints: ints(0, 10, 30, 60, 100), Leak: 2, Foot: 8},
		Start: span(20, 40),
		Entries: []api.Entry{
			{Day: 0, Kind: api.EntryFill, Size: span(10, 15)},
			{Day: 3, Kind: api.EntryDip, Size: span(18, 20)},
			{Day: 5, Kind: api.EntryDraw, Size: span(10, 20)},
			{Day: 5, Kind: api.EntryDip, Size: span(12, 16)},
		},
	}
}

// examplePlan is the plan of layer 4's examples.
func examplePlan() api.Plan {
	return api.Plan{
		From: 10, Turns: ints(2, 2, 1), Seed: 3, Arrivals: []api.Arrival{{Day: 11, Lots: 2}}, Bursts: 1,
		Sales: []api.Sale{{Id: 1, Sort: api.SortCold, Lots: 2, Day: 11}, {Id: 2, Sort: api.SortHot, Lots: 1, Day: 12}},
	}
}

// exampleMarks are the marks of layer 6's examples.
func exampleMarks() api.Marks {
	return api.Marks{
		Batches: []api.Batch{
			{Id: 1, Kind: 2, Stone: 1, Cakes: 10},
			{Id: 2, Kind: 1, Stone: 1, Clean: api.KnownOpen, Mark: 1, Cakes: 20},
			{Id: 3, Kind: 1, Stone: 2, From: 1, Round: api.KnownOpen, Mark: 1, Cakes: 10},
			{Id: 4, Kind: 3, Stone: 2, Clean: api.KnownYes, Cakes: 5},
			{Id: 5, Kind: 1, Stone: 1, Mark: 1, Cakes: 8},
		},
		Tops: []bool{false, true},
		Steps: []api.Step{
			{Stack: 1, Batch: 2, Cakes: 10}, {Stack: 1, Batch: 3, Cakes: 5}, {Stack: 1, Buyer: 70, Cakes: 3},
			{Stack: 2, Batch: 3, Cakes: 4}, {Stack: 2, Batch: 5, Cakes: 8}, {Stack: 2, Buyer: 71, Cakes: 9},
			{Stack: 1, Buyer: 72, Cakes: 11},
		},
	}
}

// example is the mill of the chapter's examples.
func example() api.Mill {
	return api.Mill{
		Cargo: api.Cargo{Bags: 10, Dirty: span(0, 10)},
		Roll:  exampleRoll(),
		Log:   exampleLog(),
		Plan:  examplePlan(),
		Ship: api.Ship{
			Holds:  []api.Hold{{Id: 1, Room: 10}, {Id: 2, Room: 8}},
			Lots:   []api.Lot{{Id: 1, Mark: 1, Bags: 4}, {Id: 2, Mark: 2, Bags: 5, Dirty: 2}, {Id: 3, Mark: 1, Bags: 3, Dirty: 3}},
			Probes: []api.Probe{{Number: 1, Hold: 1, Depth: 0, Mark: 1}},
			Limit:  20,
		},
		Marks:  exampleMarks(),
		Watch:  api.Watch{Hands: 1, Ricks: []api.Rick{{Id: 1, Every: 2}, {Id: 2, Every: 4, Waited: 1}, {Id: 3, Every: 4}}},
		Cans:   api.Cans{Sizes: ints(3, 5), In: ints(0, 0), Stock: 20},
		Wheels: api.Wheels{Teeth: ints(20, 30, 40, 24)},
		Train:  []api.Pair{{Driver: 1, Driven: 2}},
	}
}

// line is the mill after a line, and the answer.
func line(t *testing.T, m api.Mill, s string) (api.Mill, string) {
	t.Helper()
	after, answer, e := foreman.Line(m, s)
	if e != api.OK {
		t.Fatal(s, e)
	}
	return after, answer
}

// with is the mill of the chapter's examples, with something done to it.
func with(by ...func(m *api.Mill)) api.Mill {
	m := example()
	for _, f := range by {
		f(&m)
	}
	return m
}

// text is all that a mill, or something else, holds; nil is as good as empty in it.
func text(l ...any) string { return fmt.Sprint(l...) }

// unsound are the parts that can be without a truth, each with what makes it so.
func unsound() map[string]func(m *api.Mill) {
	return map[string]func(m *api.Mill){
		"press": func(m *api.Mill) {
			m.Roll.Press.Weighings = append(m.Roll.Press.Weighings, api.Weighing{Number: 16, Pressing: 3, Kind: api.WeighCake, Ounces: span(10, 20)})
		},
		"roll": func(m *api.Mill) {
			m.Roll.Notes = append(m.Roll.Notes, api.Note{Number: 5, One: thing(3, 1, true), Other: thing(3, 1, true)})
		},
		"log": func(m *api.Mill) {
			m.Log.Entries = append(m.Log.Entries, api.Entry{Day: 5, Kind: api.EntryDip, Size: span(20, 24)})
		},
		"ship": func(m *api.Mill) {
			m.Ship.Probes = append(m.Ship.Probes, api.Probe{Number: 2, Hold: 2, Depth: 7, Mark: 2}, api.Probe{Number: 3, Hold: 2, Mark: 2})
		},
		"marks": func(m *api.Mill) {
			m.Marks.Trials = append(m.Marks.Trials, api.Trial{Number: 1, Batch: 1, Kind: 1, Found: true})
		},
		"watch": func(m *api.Mill) { m.Watch.Ricks[1].Waited, m.Watch.Ricks[2].Waited = 2, 3 },
	}
}

// lists calls back with all lists that something has.
func lists(x any, f func(l reflect.Value)) {
	var visit func(v reflect.Value)
	visit = func(v reflect.Value) {
		switch v.Kind() {
		case reflect.Pointer, reflect.Interface:
			visit(v.Elem())
		case reflect.Struct:
			for i := range v.NumField() {
				visit(v.Field(i))
			}
		case reflect.Slice:
			f(v)
		}
	}
	visit(reflect.ValueOf(x))
}

// full is a list with what is behind its end.
func full(l reflect.Value) reflect.Value { return l.Slice(0, l.Cap()) }

// behind is all that lists hold, also behind their ends.
func behind(x any) string {
	s := ""
	lists(x, func(l reflect.Value) { s += fmt.Sprint(full(l)) })
	return s
}

// roomy gives all lists of something room behind their ends, in which something else lies.
func roomy(x any) {
	lists(x, func(l reflect.Value) {
		k := reflect.MakeSlice(l.Type(), l.Len()+2, l.Len()+2)
		reflect.Copy(k, l)
		if l.Len() > 0 {
			k.Index(l.Len()).Set(l.Index(0))
		}
		l.Set(k.Slice(0, l.Len()))
	})
}

// shared reports whether any two lists of some things have memory in common.
func shared(l ...any) bool {
	seen := map[uintptr]bool{}
	is := false
	for _, x := range l {
		lists(x, func(l reflect.Value) {
			for i := range l.Cap() {
				at := full(l).Index(i).Addr().Pointer()
				is = is || seen[at]
				seen[at] = true
			}
		})
	}
	return is
}
