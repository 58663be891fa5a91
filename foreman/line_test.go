package foreman_test

import (
	"slices"
	"strings"
	"testing"

	"oilcake/api"
	"oilcake/foreman"
)

// exampleYear are the lines of the chapter's examples, with their answers.
func exampleYear() [][2]string {
	return [][2]string{
		{"draw 3 1", "1 8"},
		{"all 5", "60 110"},
		{"weigh 16 3 3 10 20", "no 8"},
		{"measure 4", "0 2 2 1 1 0 2 1 0 2 2 1"},
		{"pour 0 2 2 1", "3 2"},
		{"flow 3 6 0 0", "no 8"},
		{"sell 3 1 2 12", "no 122"},
		{"sell 3 1 1 12", "well"},
		{"press", "1"},
		{"done 1 0", "-"},
		{"water 100 30 0 20", "no 122"},
		{"probe 2 2 7 2", "1"},
		{"hold 1", "2"},
		{"test 1 5 2 1", "well"},
		{"warn 1", "70 71 72"},
		{"give 1 70 1", "well"},
		{"give 1 70 1", "no 60"},
		{"turn 1", "well"},
		{"today", "2"},
		{"turn 9", "no 72"},
		{"note 5 1 1 0 1 1 0", "2"},
		{"pay 1", "0 0"},
		{"go", "?"},
	}
}

// TestExamples checks P12.3 to P12.5 by the chapter's examples, line by line and as a text.
func TestExamples(t *testing.T) {
	m := example()
	var told, answers, kept []string
	var denied []int
	for i, x := range exampleYear() {
		told, answers = append(told, x[0]), append(answers, x[1])
		if x[1] == "?" || strings.HasPrefix(x[1], "no") {
			denied = append(denied, i)
		} else {
			kept = append(kept, x[0]+"\n")
		}
		after, answer := line(t, m, x[0])
		if answer != x[1] {
			t.Error(x, answer)
		}
		m = after
	}
	all := strings.Join(told, "\n")
	after, l, e := foreman.Run(example(), all)
	if text(after) != text(m) || !slices.Equal(l, answers) || e != api.OK {
		t.Error(l, e)
	}
	if l, e := foreman.Denied(example(), all); !slices.Equal(l, denied) || !slices.Equal(l, ints(2, 5, 6, 10, 16, 19, 22)) || e != api.OK {
		t.Error(l, e)
	}
	if s, e := foreman.Kept(example(), all); s != strings.Join(kept, "") || e != api.OK {
		t.Error(s, e)
	}
	if a, e := foreman.Account(m); a != (api.Account{Barrels: 1, Pence: span(150, 150)}) || e != api.OK {
		t.Error(a, e)
	}
}

// told is what is told of a line: the mill before it, if it is not that of the chapter's examples, the answer, and what it changes, if it changes something.
type told struct {
	line, answer string
	before, does func(m *api.Mill)
}

// try checks what is told of lines.
func try(t *testing.T, l []told) {
	t.Helper()
	nothing := func(*api.Mill) {}
	for _, x := range l {
		if x.before == nil {
			x.before = nothing
		}
		if x.does == nil {
			x.does = nothing
		}
		after, answer := line(t, with(x.before), x.line)
		want := with(x.before, x.does)
		if answer != x.answer || text(after) != text(want) {
			t.Errorf("%q: %q, want %q\n%v\n%v", x.line, answer, x.answer, after, want)
		}
	}
}

// TestDraw checks VerbDraw of P12.3.
func TestDraw(t *testing.T) {
	clean := func(m *api.Mill) { m.Cargo.Dirty = span(0, 0) }
	few := func(m *api.Mill) { m.Cargo.Dirty = span(2, 5) }
	rest := func(bags, lo, hi int) func(m *api.Mill) {
		return func(m *api.Mill) { m.Cargo = api.Cargo{Bags: bags, Dirty: span(lo, hi)} }
	}
	try(t, []told{
		{"draw 3 1", "1 8", nil, rest(7, 0, 7)},
		{"draw 0 0", "0 10", nil, nil},
		{"draw 4 1", "2 5", few, rest(6, 1, 4)},
		{"draw 9 4", "4 5", few, rest(1, 0, 1)},
		{"draw 3 0", "0 0", clean, rest(7, 0, 0)},
		{"draw 11 0", "no 11", nil, nil},
		{"draw 3 4", "no 11", nil, nil},
		{"draw 9999999 9999999", "no 11", nil, nil},
		{"draw 3 1", "no 8", clean, nil},
		{"draw 10 4", "no 6", nil, nil},
		{"draw 10 4", "no 8", clean, nil},
		{"draw 11 4", "no 11", clean, nil},
	})
}

// TestPress checks VerbWeigh and VerbAll of P12.3.
func TestPress(t *testing.T) {
	weighed := func(at, number, pressing, kind, lo, hi int) func(m *api.Mill) {
		return func(m *api.Mill) {
			x := api.Weighing{Number: number, Pressing: pressing, Kind: kind, Ounces: span(lo, hi)}
			m.Roll.Press.Weighings = slices.Insert(m.Roll.Press.Weighings, at, x)
		}
	}
	full := func(m *api.Mill) {
		for n := range 15 {
			weighed(15+n, 16+n, 1, api.WeighSeed, 0, 2000)(m)
		}
	}
	short := func(m *api.Mill) { m.Roll.Press.Weighings = m.Roll.Press.Weighings[1:] }
	torn := unsound()["press"]
	try(t, []told{
		{"weigh 16 3 3 70 80", "well", nil, weighed(15, 16, 3, 3, 70, 80)},
		{"weigh 9999 1 6 0 1000000", "well", nil, weighed(15, 9999, 1, 6, 0, 1000000)},
		{"weigh 1 2 6 40 40", "well", short, weighed(0, 1, 2, 6, 40, 40)},
		{"weigh 16 3 3 10 20", "no 8", nil, nil},
		{"weigh 16 3 3 70 80", "no 21", torn, nil},
		{"weigh 17 3 3 70 80", "no 8", torn, nil},
		{"weigh 15 3 3 70 80", "no 21", nil, nil},
		{"weigh 0 3 3 70 80", "no 21", nil, nil},
		{"weigh 10000 3 3 70 80", "no 21", nil, nil},
		{"weigh 16 4 3 70 80", "no 21", nil, nil},
		{"weigh 16 0 3 70 80", "no 21", nil, nil},
		{"weigh 16 3 0 70 80", "no 21", nil, nil},
		{"weigh 16 3 7 70 80", "no 21", nil, nil},
		{"weigh 16 3 3 80 70", "no 21", nil, nil},
		{"weigh 16 3 3 0 1000001", "no 21", nil, nil},
		{"weigh 31 3 3 70 80", "no 9", full, nil},
		{"weigh 0 3 3 10 20", "no 9", full, nil},
		{"all 1", "1600 1600", nil, nil},
		{"all 2", "490 530", nil, nil},
		{"all 3", "870 920", nil, nil},
		{"all 4", "65 90", nil, nil},
		{"all 5", "60 110", nil, nil},
		{"all 6", "no 2", nil, nil},
		{"all 0", "no 2", nil, nil},
		{"all 9999999", "no 2", nil, nil},
		{"all 5", "no 8", torn, nil},
		{"all 6", "no 2", torn, nil},
	})
}

func entered(l ...api.Entry) func(m *api.Mill) {
	return func(m *api.Mill) { m.Log.Entries = append(m.Log.Entries, l...) }
}

// fullLog is of a log with so many entries.
func fullLog(n int) func(m *api.Mill) {
	return func(m *api.Mill) {
		for len(m.Log.Entries) < n {
			entered(api.Entry{Day: 5, Kind: api.EntryDraw})(m)
		}
	}
}

// TestFlow checks VerbFlow of P12.3.
func TestFlow(t *testing.T) {
	fresh := func(m *api.Mill) { m.Log.Entries = nil }
	torn := unsound()["log"]
	try(t, []told{
		{"flow 1 6 5 10", "23 40", nil, entered(api.Entry{Day: 6, Kind: 1, Size: span(5, 10)})},
		{"flow 2 5 0 5", "15 30", nil, entered(api.Entry{Day: 5, Kind: 2, Size: span(0, 5)})},
		{"flow 3 7 10 12", "16 20", nil, entered(api.Entry{Day: 7, Kind: 3, Size: span(10, 12)})},
		{"flow 3 0 0 32", "20 40", fresh, entered(api.Entry{Kind: 3, Size: span(0, 32)})},
		{"flow 2 3652 0 0", "0 30", nil, entered(api.Entry{Day: 3652, Kind: 2})},
		{"flow 2 5 0 0", "20 30", fullLog(11), entered(api.Entry{Day: 5, Kind: 2})},
		{"flow 3 6 0 0", "no 8", nil, nil},
		{"flow 2 5 31 40", "no 8", nil, nil},
		{"flow 2 5 0 0", "no 8", torn, nil},
		{"flow 0 6 0 0", "no 32", nil, nil},
		{"flow 4 6 0 0", "no 32", nil, nil},
		{"flow 1 4 0 0", "no 32", nil, nil},
		{"flow 1 3653 0 0", "no 32", nil, nil},
		{"flow 1 6 10 5", "no 32", nil, nil},
		{"flow 1 6 0 101", "no 32", nil, nil},
		{"flow 3 6 0 33", "no 32", nil, nil},
		{"flow 3 6 0 33", "no 32", torn, nil},
		{"flow 2 5 0 0", "no 9", fullLog(12), nil},
		{"flow 0 0 0 0", "no 9", fullLog(12), nil},
	})
}

func drawn(n int) api.Entry { return api.Entry{Day: 5, Kind: api.EntryDraw, Size: span(n, n)} }

func filled(n int) api.Entry { return api.Entry{Day: 5, Kind: api.EntryFill, Size: span(n, n)} }

// poured is of cans in which there is something, and a tank with some stock, with more entries.
func poured(one, other, stock int, l ...api.Entry) func(m *api.Mill) {
	return func(m *api.Mill) {
		m.Cans.In, m.Cans.Stock = ints(one, other), stock
		entered(l...)(m)
	}
}

// low is of a tank of which nothing may be drawn for sure.
func low(m *api.Mill) { m.Log.Tank.Foot = 16 }

// begun is of a log without entries, with a tank that holds some pints.
func begun(lo, hi, one, other int) func(m *api.Mill) {
	return func(m *api.Mill) {
		m.Log.Start, m.Log.Entries = span(lo, hi), nil
		m.Cans.In = ints(one, other)
	}
}

// TestPour checks VerbPour of P12.3.
func TestPour(t *testing.T) {
	torn := unsound()["log"]
	holding := func(one, other, stock int) func(m *api.Mill) { return poured(one, other, stock) }
	fullWith := func(one int) func(m *api.Mill) {
		return func(m *api.Mill) {
			fullLog(12)(m)
			m.Cans.In[0] = one
		}
	}
	back := api.Entry{Kind: api.EntryFill, Size: span(5, 5)}
	try(t, []told{
		{"pour 0 2 2 1", "3 2", nil, poured(3, 2, 5, drawn(5))},
		{"pour 0 1 0 2", "3 5", nil, poured(3, 5, 2, drawn(3), drawn(5))},
		{"pour 0 1 0 2 1 0", "0 5", nil, poured(0, 5, 5, drawn(3), drawn(5), filled(3))},
		{"pour 0 1 1 2 0 1 1 2 2 0 1 2 0 1 1 2", "0 4", nil, poured(0, 4, 6, drawn(3), drawn(3), filled(5), drawn(3))},
		{"pour 0 2 2 1", "3 2", holding(0, 0, 0), poured(3, 2, 5, drawn(5))}, // what the cans have as Stock does not count
		{"pour 0 2 2 1", "3 2", holding(0, 0, 600), poured(3, 2, 5, drawn(5))},
		{"pour 1 2", "1 5", holding(3, 3, 600), poured(1, 5, 10)},
		{"pour 1 2", "no 6", nil, nil},
		{"pour 0 1 0 1", "no 6", nil, nil},
		{"pour 0 1", "no 6", low, nil},
		{"pour 0 2 0 1 2 1", "no 6", nil, nil}, // the first pourings are not done either
		{"pour 0 0", "no 81", nil, nil},
		{"pour 3 0", "no 81", nil, nil},
		{"pour 0 3", "no 81", nil, nil},
		{"pour 0 1 9999999 1", "no 81", nil, nil},
		{"pour 1 2 0 0", "no 6", nil, nil},
		{"pour 0 1", "no 8", torn, nil},
		{"pour 0 0", "no 8", torn, nil},
		{"pour 1 2", "no 8", torn, nil},
		{"pour 0 1", "no 9", fullLog(12), nil},
		{"pour 0 1 0 2", "no 9", fullLog(11), nil},
		{"pour 0 1 0 1", "no 6", fullLog(12), nil},
		{"pour 0 1 1 2", "0 3", fullLog(11), poured(0, 3, 7, drawn(3))},
		{"pour 1 2", "0 3", fullWith(3), poured(0, 3, 10)},
		{"pour 2 0", "no 8", begun(100, 100, 0, 5), nil},
		{"pour 2 0", "no 8", begun(96, 100, 0, 5), nil},
		{"pour 2 0", "0 0", begun(90, 100, 0, 5), poured(0, 0, 85, back)},
		{"pour 2 0", "0 0", begun(3, 3, 0, 5), poured(0, 0, 5, back)},
	})
}

// TestMeasure checks VerbMeasure of P12.3.
func TestMeasure(t *testing.T) {
	torn := unsound()["log"]
	stocked := func(n int) func(m *api.Mill) { return poured(0, 0, n) }
	try(t, []told{
		{"measure 4", "0 2 2 1 1 0 2 1 0 2 2 1", nil, nil},
		{"measure 1", "0 1 1 2 0 1 1 2", nil, nil},
		{"measure 0", "-", nil, nil},
		{"measure 3", "0 1", stocked(0), nil},
		{"measure 3", "0 1", stocked(600), nil},
		{"measure 3", "no 6", low, nil},
		{"measure 0", "-", low, nil},
		{"measure 6", "no 6", nil, nil},
		{"measure 20", "no 6", nil, nil},
		{"measure 21", "no 2", nil, nil},
		{"measure 9999999", "no 2", nil, nil},
		{"measure 21", "no 8", torn, nil},
		{"measure 0", "no 8", torn, nil},
	})
}

func did(l ...api.Did) func(m *api.Mill) {
	return func(m *api.Mill) { m.Did = append(m.Did, l...) }
}

var (
	cold      = api.Did{Sort: api.SortCold}
	coldBurst = api.Did{Sort: api.SortCold, Burst: true}
	hot       = api.Did{Sort: api.SortHot}
	nothing   = api.Did{}
)

// unsure is of a plan that is not sure.
func unsure(m *api.Mill) { m.Plan.Bursts = 2 }

// TestSell checks VerbSell of P12.3.
func TestSell(t *testing.T) {
	sold := func(at, id, sort, lots, day int) func(m *api.Mill) {
		return func(m *api.Mill) {
			m.Plan.Sales = slices.Insert(m.Plan.Sales, at, api.Sale{Id: id, Sort: sort, Lots: lots, Day: day})
		}
	}
	apart := func(m *api.Mill) { m.Plan.Sales[0].Id, m.Plan.Sales[1].Id = 5, 9 }
	free := func(m *api.Mill) { m.Plan.Sales = nil }
	eight := func(m *api.Mill) {
		m.Plan.Seed, m.Plan.Sales = 0, nil
		for id := range 8 {
			m.Plan.Sales = append(m.Plan.Sales, api.Sale{Id: id + 1, Sort: 1, Lots: 6, Day: 10})
		}
	}
	try(t, []told{
		{"sell 3 1 1 12", "well", nil, sold(2, 3, 1, 1, 12)},
		{"sell 7 1 1 12", "well", apart, sold(1, 7, 1, 1, 12)},
		{"sell 1 1 1 12", "well", apart, sold(0, 1, 1, 1, 12)},
		{"sell 3 2 1 11", "well", free, sold(0, 3, 2, 1, 11)},
		{"sell 3 1 2 12", "no 122", nil, nil},
		{"sell 3 2 2 12", "no 122", nil, nil},
		{"sell 3 1 2 10", "no 122", nil, nil},
		{"sell 3 1 1 10", "well", nil, sold(2, 3, 1, 1, 10)},
		// What was done counts: a turn that is over, or a burst that cannot come any more.
		{"sell 3 1 1 12", "no 122", did(nothing), nil},
		{"sell 3 1 1 12", "well", did(coldBurst), sold(2, 3, 1, 1, 12)},
		{"sell 3 1 2 12", "no 122", did(cold, cold, cold, hot), nil},
		{"sell 3 1 1 12", "well", did(cold, cold, coldBurst, hot), sold(2, 3, 1, 1, 12)},
		{"sell 3 1 1 12", "no 122", unsure, nil},
		{"sell 1 1 1 12", "no 43", nil, nil},
		{"sell 0 1 1 12", "no 43", nil, nil},
		{"sell 10000 1 1 12", "no 43", nil, nil},
		{"sell 3 0 1 12", "no 43", nil, nil},
		{"sell 3 3 1 12", "no 43", nil, nil},
		{"sell 3 1 0 12", "no 43", nil, nil},
		{"sell 3 1 7 12", "no 43", nil, nil},
		{"sell 3 1 1 9", "no 43", nil, nil},
		{"sell 3 1 1 13", "no 43", nil, nil},
		{"sell 3 1 1 13", "no 43", unsure, nil},
		{"sell 9 1 1 12", "no 9", eight, nil},
		{"sell 9 0 0 0", "no 9", eight, nil},
	})
}

// TestTurns checks VerbPress and VerbDone of P12.3.
func TestTurns(t *testing.T) {
	caked := func(m *api.Mill) { m.Plan.Seed, m.Plan.Cakes, m.Plan.Arrivals, m.Plan.Sales = 0, 1, nil, nil }
	bare := func(m *api.Mill) { m.Plan.Seed, m.Plan.Arrivals, m.Plan.Sales = 0, nil, nil }
	try(t, []told{
		{"press", "1", nil, nil},
		{"press", "2", did(cold, cold, cold), nil},
		{"press", "2", caked, nil},
		{"press", "0", bare, nil},
		{"press", "no 42", unsure, nil},
		{"press", "no 42", did(nothing, nothing, nothing), nil},
		{"press", "no 6", did(cold, cold, cold, hot, cold), nil},
		{"press", "no 6", did(nothing, nothing, nothing, nothing, nothing), nil},
		{"done 1 0", "-", nil, did(cold)},
		{"done 1 1", "-", nil, did(coldBurst)},
		{"done 0 0", "-", nil, did(nothing)},
		{"done 2 0", "-", did(cold), did(hot)},
		{"done 0 0", "-", did(nothing, nothing), did(nothing)},
		{"done 0 0", "1", did(nothing, nothing, nothing), did(nothing)},
		{"done 1 0", "1 2", did(nothing, cold, nothing, nothing), did(cold)},
		{"done 2 0", "1", did(nothing, cold, nothing, nothing), did(hot)},
		{"done 0 0", "1 2", did(nothing, nothing, nothing, nothing), did(nothing)},
		{"done 1 0", "-", unsure, did(cold)},
		{"done 2 0", "no 41", nil, nil},
		{"done 3 0", "no 41", nil, nil},
		{"done 0 1", "no 41", nil, nil},
		{"done 1 1", "no 41", did(coldBurst), nil},
		{"done 1 0", "no 41", bare, nil},
		{"done 0 0", "no 41", did(nothing, nothing, nothing, nothing, nothing), nil},
		{"done 1 2", "no 2", nil, nil},
		{"done 1 9999999", "no 2", nil, nil},
		{"done 3 2", "no 2", nil, nil},
	})
}

// TestWater checks VerbWater of P12.3.
func TestWater(t *testing.T) {
	turns := func(l ...int) func(m *api.Mill) { return func(m *api.Mill) { m.Plan.Turns = l } }
	all := did(cold, cold, cold, hot, cold)
	one := func(m *api.Mill) {
		m.Plan.Turns, m.Plan.Arrivals, m.Plan.Sales = ints(2), nil, nil
		m.Train = []api.Pair{{Driver: 2, Driven: 1}}
	}
	year := func(m *api.Mill) {
		m.Plan.Turns, m.Plan.Arrivals, m.Plan.Sales = slices.Repeat(ints(2), 12), nil, nil
	}
	try(t, []told{
		{"water 100 30 60 20", "well", nil, turns(2, 1, 1)},
		{"water 60 60 60 20", "well", nil, turns(2, 2, 1)},
		{"water 100000 100000 100000 10000", "well", nil, nil},
		{"water 60 30 60 20", "well", did(cold), turns(2, 1, 1)},
		{"water 60 60 60 20", "well", all, nil},
		{"water 60 60 0 20", "no 41", all, nil},
		{"water 20 30", "well", one, turns(1)},
		{"water 20 15", "well", one, turns(2)},
		{"water 30 30 30 30 30 60 30 30 30 30 30 0 20", "well", year, turns(1, 1, 1, 1, 1, 2, 1, 1, 1, 1, 1, 0)},
		{"water 100 30 0 20", "no 122", nil, nil},
		{"water 0 0 0 20", "no 122", nil, nil},
		{"water 100 30 60 20", "no 122", did(nothing), nil}, // what was done counts
		{"water 100 30 60 20", "no 122", unsure, nil},
		{"water 100 30 20", "no 2", nil, nil},
		{"water 100 30", "no 2", nil, nil},
		{"water 100 30 60 20 20", "no 2", nil, nil},
		{"water 100 30 60 0", "no 2", nil, nil},
		{"water 100 30 60 10001", "no 2", nil, nil},
		{"water 100001 30 60 20", "no 2", nil, nil},
		{"water 100 30 9999999 20", "no 2", nil, nil},
		{"water 100 30 0 0", "no 2", unsure, nil},
		{"water 100 0 0 20", "no 41", did(cold, cold, hot), nil},
		{"water 0 0 0 20", "no 41", did(nothing), nil},
	})
}

// TestShip checks VerbProbe and VerbHold of P12.3.
func TestShip(t *testing.T) {
	probed := func(at int, x api.Probe) func(m *api.Mill) {
		return func(m *api.Mill) { m.Ship.Probes = slices.Insert(m.Ship.Probes, at, x) }
	}
	limit := func(n int) func(m *api.Mill) { return func(m *api.Mill) { m.Ship.Limit = n } }
	later := func(m *api.Mill) { m.Ship.Probes[0].Number = 7 }
	full := func(m *api.Mill) {
		for n := range 9 {
			probed(1+n, api.Probe{Number: 2 + n, Hold: 1, Mark: 1})(m)
		}
	}
	torn := unsound()["ship"]
	try(t, []told{
		{"probe 2 2 7 2", "1", nil, probed(1, api.Probe{Number: 2, Hold: 2, Depth: 7, Mark: 2})},
		{"probe 3 1 4 0", "1", later, probed(0, api.Probe{Number: 3, Hold: 1, Depth: 4})},
		{"probe 9999 1 3 1", "2", nil, probed(1, api.Probe{Number: 9999, Hold: 1, Depth: 3, Mark: 1})},
		{"probe 2 1 35 0", "3", nil, probed(1, api.Probe{Number: 2, Hold: 1, Depth: 35})},
		{"probe 2 1 0 2", "no 8", nil, nil},
		{"probe 4 1 0 1", "no 8", torn, nil},
		{"probe 1 1 0 1", "no 51", nil, nil},
		{"probe 0 1 0 1", "no 51", nil, nil},
		{"probe 10000 1 0 1", "no 51", nil, nil},
		{"probe 2 3 0 1", "no 51", nil, nil},
		{"probe 2 1 36 0", "no 51", nil, nil},
		{"probe 2 1 0 10", "no 51", nil, nil},
		{"probe 2 1 36 0", "no 51", torn, nil},
		{"probe 20 1 0 1", "no 9", full, nil},
		{"probe 1 9 99 99", "no 9", full, nil},
		{"hold 1", "1", nil, nil},
		{"hold 2", "1", nil, nil},
		{"hold 1", "2", limit(100), nil},
		{"hold 2", "0", probed(1, api.Probe{Number: 2, Hold: 2, Depth: 7, Mark: 2}), nil},
		{"hold 3", "no 6", nil, nil},
		{"hold 0", "no 6", nil, nil},
		{"hold 1", "no 8", torn, nil},
		{"hold 3", "no 6", torn, nil},
	})
}

// TestTrials checks VerbTest of P12.3.
func TestTrials(t *testing.T) {
	tried := func(at int, x api.Trial) func(m *api.Mill) {
		return func(m *api.Mill) { m.Marks.Trials = slices.Insert(m.Marks.Trials, at, x) }
	}
	one := tried(0, api.Trial{Number: 4, Batch: 1, Kind: 2, Found: true})
	full := func(m *api.Mill) {
		for n := range 16 {
			tried(n, api.Trial{Number: 1 + n, Batch: 1, Kind: 2, Found: true})(m)
		}
	}
	torn := unsound()["marks"]
	try(t, []told{
		{"test 1 5 2 1", "well", nil, tried(0, api.Trial{Number: 1, Batch: 5, Kind: 2, Found: true})},
		{"test 1 1 4 0", "well", one, tried(0, api.Trial{Number: 1, Batch: 1, Kind: 4})},
		{"test 9999 5 2 0", "well", one, tried(1, api.Trial{Number: 9999, Batch: 5, Kind: 2})},
		{"test 1 1 1 1", "no 8", nil, nil},
		{"test 1 1 2 0", "no 8", nil, nil},
		{"test 2 1 2 1", "no 8", torn, nil},
		{"test 4 5 2 1", "no 61", one, nil},
		{"test 0 5 2 1", "no 61", nil, nil},
		{"test 1 6 2 1", "no 61", nil, nil},
		{"test 1 5 5 1", "no 61", nil, nil},
		{"test 1 5 0 1", "no 61", nil, nil},
		{"test 1 5 5 1", "no 61", torn, nil},
		{"test 1 5 2 2", "no 2", nil, nil},
		{"test 1 6 5 2", "no 2", nil, nil},
		{"test 20 1 2 1", "no 9", full, nil},
		{"test 1 9 9 1", "no 9", full, nil},
		{"test 20 1 2 2", "no 2", full, nil},
	})
}

// TestCakes checks VerbPut, VerbGive and VerbWarn of P12.3.
func TestCakes(t *testing.T) {
	step := func(x api.Step) func(m *api.Mill) {
		return func(m *api.Mill) { m.Marks.Steps = append(m.Marks.Steps, x) }
	}
	full := func(m *api.Mill) {
		for len(m.Marks.Steps) < 24 {
			step(api.Step{Stack: 1, Batch: 1 + len(m.Marks.Steps)%2, Cakes: 1})(m)
		}
	}
	torn := unsound()["marks"]
	try(t, []told{
		{"put 1 2 10", "well", nil, step(api.Step{Stack: 1, Batch: 2, Cakes: 10})},
		{"put 2 4 5", "well", torn, step(api.Step{Stack: 2, Batch: 4, Cakes: 5})},
		{"put 1 2 11", "no 60", nil, nil},
		{"put 1 2 0", "no 60", nil, nil},
		{"put 1 0 1", "no 60", nil, nil},
		{"put 1 70 1", "no 60", nil, nil},
		{"put 0 2 1", "no 60", nil, nil},
		{"put 3 2 1", "no 60", nil, nil},
		{"put 1 2 9999999", "no 60", nil, nil},
		{"put 1 2 1", "no 60", full, nil},
		{"give 1 70 1", "well", nil, step(api.Step{Stack: 1, Buyer: 70, Cakes: 1})},
		{"give 2 9999 3", "well", torn, step(api.Step{Stack: 2, Buyer: 9999, Cakes: 3})},
		{"give 1 70 2", "no 60", nil, nil},
		{"give 1 70 0", "no 60", nil, nil},
		{"give 1 0 1", "no 60", nil, nil},
		{"give 1 10000 1", "no 60", nil, nil},
		{"give 0 70 1", "no 60", nil, nil},
		{"give 3 70 1", "no 60", nil, nil},
		{"give 1 70 1", "no 60", full, nil},
		{"warn 1", "70 71 72", nil, nil},
		{"warn 2", "-", nil, nil},
		{"warn 4", "-", nil, nil},
		{"warn 0", "no 2", nil, nil},
		{"warn 5", "no 2", nil, nil},
		{"warn 5", "no 2", torn, nil},
		{"warn 1", "no 8", torn, nil},
	})
}

// TestRicks checks VerbTurn and VerbToday of P12.3.
func TestRicks(t *testing.T) {
	waited := func(l ...int) func(m *api.Mill) {
		return func(m *api.Mill) {
			for i, n := range l {
				m.Watch.Ricks[i].Waited = n
			}
		}
	}
	hands := func(n int, l ...int) func(m *api.Mill) {
		return func(m *api.Mill) {
			m.Watch.Hands = n
			waited(l...)(m)
		}
	}
	none := func(m *api.Mill) { m.Watch.Ricks = nil }
	torn := unsound()["watch"]
	try(t, []told{
		{"turn 1", "well", nil, waited(0, 2, 1)},
		{"turn 1 2 3", "well", hands(3, 1, 3, 3), waited(0, 0, 0)},
		{"turn 1 3", "well", hands(2), waited(0, 2, 0)},
		{"turn", "well", hands(3), waited(1, 2, 1)},
		{"turn", "well", none, nil},
		{"turn", "no 8", nil, nil},
		{"turn 3", "no 8", torn, nil},
		{"turn 2", "no 73", waited(1), nil},
		{"turn", "no 73", waited(1, 3, 3), nil},
		{"turn 2", "no 73", torn, nil},
		{"turn 9", "no 72", nil, nil},
		{"turn 0", "no 72", nil, nil},
		{"turn 1 2", "no 72", nil, nil},
		{"turn 3 2", "no 72", hands(3), nil},
		{"turn 1 1", "no 72", hands(3), nil},
		{"turn 1 2 9999999", "no 72", hands(3), nil},
		{"today", "1", nil, nil},
		{"today", "1 2", hands(2, 1, 3, 0), nil},
		{"today", "-", hands(3), nil},
		{"today", "-", none, nil},
		{"today", "no 8", torn, nil},
	})
}

// TestNotes checks VerbNote and VerbPay of P12.3.
func TestNotes(t *testing.T) {
	noted := func(at, number int, one, other api.Thing) func(m *api.Mill) {
		return func(m *api.Mill) {
			m.Roll.Notes = slices.Insert(m.Roll.Notes, at, api.Note{Number: number, One: one, Other: other})
		}
	}
	later := func(m *api.Mill) {
		for i := range m.Roll.Notes {
			m.Roll.Notes[i].Number *= 2
		}
	}
	full := func(m *api.Mill) {
		for n := range 20 {
			noted(4+n, 5+n, thing(3, 1, false), thing(3, 1, false))(m)
		}
	}
	torn := unsound()["roll"]
	try(t, []told{
		{"note 5 1 1 0 1 1 0", "2", nil, noted(4, 5, thing(1, 1, false), thing(1, 1, false))},
		{"note 5 1 1 0 2 2 1", "6", nil, noted(4, 5, thing(1, 1, false), thing(2, 2, true))},
		{"note 3 2 2 1 2 2 1", "5", later, noted(1, 3, thing(2, 2, true), thing(2, 2, true))},
		{"note 9999 1 1 0 1 1 1", "10", nil, noted(4, 9999, thing(1, 1, false), thing(1, 1, true))},
		{"note 5 3 1 1 3 1 1", "no 8", nil, nil},
		{"note 6 1 1 0 1 1 1", "no 8", torn, nil},
		{"note 4 1 1 0 1 1 0", "no 91", nil, nil},
		{"note 0 1 1 0 1 1 0", "no 91", nil, nil},
		{"note 10000 1 1 0 1 1 0", "no 91", nil, nil},
		{"note 5 4 1 0 1 1 0", "no 91", nil, nil},
		{"note 5 1 3 0 1 1 0", "no 91", nil, nil},
		{"note 5 1 1 0 4 1 0", "no 91", nil, nil},
		{"note 5 1 1 0 1 3 0", "no 91", nil, nil},
		{"note 4 3 1 1 3 1 1", "no 91", torn, nil},
		{"note 5 1 1 2 1 1 0", "no 2", nil, nil},
		{"note 5 1 1 0 1 1 2", "no 2", nil, nil},
		{"note 5 4 1 9999999 1 1 0", "no 2", nil, nil},
		{"note 30 1 1 0 1 1 0", "no 9", full, nil},
		{"note 4 9 9 1 9 9 1", "no 9", full, nil},
		{"note 30 1 1 0 1 1 2", "no 2", full, nil},
		{"pay 1", "0 150", nil, nil},
		{"pay 2", "0 125", nil, nil},
		{"pay 3", "0 50", nil, nil},
		{"pay 4", "no 6", nil, nil},
		{"pay 0", "no 6", nil, nil},
		{"pay 1", "no 8", torn, nil},
		{"pay 4", "no 6", torn, nil},
	})
}

// smallFile is the file of smallRoll: numbers are written as chapter 11 tells.
const smallFile = ".-." + // one pressing
	".-." + "-" + ".-." + "-" + // 1, on 0, by 1, to 0
	"-" + // no weighings
	".-." + "..-.." + // one man: 3
	".-." + ".-." + "..--." + // one shift: of 1, 5 pence
	".-." + "...-..." + // one note: 7
	"..-.." + ".-." + ".-." + // 3 was at 1
	"..-.." + ".-." + "-" // or was not

func smallRoll() api.Roll {
	return api.Roll{
		Press:  api.Press{Pressings: []api.Pressing{{Id: 1, Press: 1}}},
		Men:    ints(3),
		Shifts: []api.Shift{{Pressing: 1, Pence: 5}},
		Notes:  []api.Note{{Number: 7, One: thing(3, 1, true), Other: thing(3, 1, false)}},
	}
}

// TestWire checks VerbWire and VerbRead of P12.3.
func TestWire(t *testing.T) {
	small := func(m *api.Mill) { m.Roll = smallRoll() }
	empty := func(m *api.Mill) { m.Roll = api.Roll{} }
	_, tornRoll := line(t, with(unsound()["roll"]), "wire")
	_, tornPress := line(t, with(unsound()["press"]), "wire")
	try(t, []told{
		{"wire", smallFile, small, nil},
		{"wire", "-----", empty, nil},
		{"wire", tornRoll, unsound()["roll"], nil},
		{"wire", tornPress, unsound()["press"], nil},
		{"read " + smallFile, "well", nil, small},
		{"read " + smallFile, "well", unsound()["roll"], small},
		{"read -----", "well", nil, empty},
		{"read -----", "well", small, empty},
		{"read " + tornRoll, "no 8", nil, nil},
		{"read " + tornPress, "no 8", nil, nil},
		{"read " + tornRoll, "no 8", unsound()["roll"], nil},
		{"read -", "no 114", nil, nil},
		{"read .", "no 114", nil, nil},
		{"read " + smallFile + "-", "no 114", nil, nil},
		{"read " + smallFile[1:], "no 114", nil, nil},
		{"read " + strings.Repeat("-", 19995), "no 114", nil, nil},
	})
}

// TestNone checks P12.3: a line that is that of no order changes nothing.
func TestNone(t *testing.T) {
	for _, s := range noLines() {
		try(t, []told{{s, "?", nil, nil}})
	}
}
