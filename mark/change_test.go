package mark_test

import (
	"math/rand"
	"slices"
	"testing"

	"oilcake/api"
	"oilcake/mark"
	"oilcake/press"
)

// TestTry checks P6.8: a trial more is in its place by Number, all else is as it was.
func TestTry(t *testing.T) {
	m := example(trial(2, 1, 2, true), trial(4, 5, 1, true))
	for _, x := range []struct {
		number, at int
	}{{1, 0}, {3, 1}, {5, 2}, {9999, 2}} {
		y := trial(x.number, 2, 2, false)
		want := with(m, func(m *api.Marks) { m.Trials = slices.Insert(m.Trials, x.at, y) })
		if n, e := mark.Try(m, y); !same(n, want) || e != api.OK {
			t.Error(x, n, e)
		}
	}
	full := tried(m, true17()[:15]...)
	if n, e := mark.Try(full, true17()[15]); !same(n, tried(m, true17()[:16]...)) || e != api.OK {
		t.Error(n, e)
	}
}

// TestBrand checks P6.8: a batch has another mark, also none, or the one that it had; all else is as it was.
func TestBrand(t *testing.T) {
	m := example(trial(2, 1, 2, true))
	for i, b := range m.Batches {
		for number := range 5 {
			want := with(m, func(m *api.Marks) { m.Batches[i].Mark = number })
			if n, e := mark.Brand(m, b.Id, number); !same(n, want) || e != api.OK {
				t.Error(b, number, n, e)
			}
		}
	}
	// what is not pure no longer spoils the mark
	n, _ := mark.Brand(m, 3, 2)
	if l, e := mark.Bad(n, 1); !slices.Equal(l, []int{2, 5}) || e != api.OK {
		t.Error(l, e)
	}
	if l, e := mark.Bad(n, 2); !slices.Equal(l, []int{3}) || e != api.OK {
		t.Error(l, e)
	}
}

// example2 is the press of layer 2's examples, in which the parings of 1 and 2 go to 3.
func example2() api.Press {
	p := api.Press{Pressings: []api.Pressing{{Id: 1, Press: 1, To: 3}, {Id: 2, Press: 1, To: 3}, {Id: 3, Press: 1}}}
	for i, s := range []api.Span{
		span(1000, 1000), span(290, 310), span(500, 520), span(40, 50), span(30, 60),
		span(600, 600), span(170, 180), span(300, 310), span(20, 30), span(20, 40),
		span(0, 0), span(30, 40), span(70, 90), span(5, 10), span(0, 10),
	} {
		p.Weighings = append(p.Weighings, api.Weighing{Number: i + 1, Pressing: 1 + i/5, Kind: 1 + i%5, Ounces: s})
	}
	return p
}

// TestLedExample checks P6.8 and P6.16 by the press of layer 2's examples: batches that are no pressings stay as they are, those that are lose what they had.
func TestLedExample(t *testing.T) {
	m := example()
	m.Batches[1].From, m.Batches[1].Round = 1, api.KnownYes
	m.Batches[4].From, m.Batches[4].Round = 4, api.KnownOpen
	want := with(m, func(m *api.Marks) {
		m.Batches[1].From, m.Batches[1].Round = 0, api.KnownNo
		m.Batches[2].From, m.Batches[2].Round = 1, api.KnownYes
	})
	if n, e := mark.Led(m, example2()); !same(n, want) || e != api.OK {
		t.Error(n, e)
	}
	// without the batch 1 those of 2 go into 3
	m = with(m, func(m *api.Marks) { m.Batches, m.Batches[1].From, m.Batches[1].Round = m.Batches[1:], 0, 0 })
	m.Batches[1].From, m.Batches[1].Round = 0, 0
	want = with(m, func(m *api.Marks) { m.Batches[1].From, m.Batches[1].Round = 2, api.KnownYes })
	if n, e := mark.Led(m, example2()); !same(n, want) || e != api.OK {
		t.Error(n, e)
	}
	// a press that tells less: nothing is known of the parings of 2
	p := example2()
	p.Weighings = p.Weighings[:5]
	want.Batches[1].Round = api.KnownOpen
	if n, e := mark.Led(m, p); !same(n, want) || e != api.OK {
		t.Error(n, e)
	}
	if n, e := mark.Led(m, api.Press{}); !same(n, m) || e != api.OK {
		t.Error(n, e)
	}
}

// TestLedAll checks P6.8 and P6.16 with parings that were all weighed: of those that went to a pressing the first counts of which there can be some.
func TestLedAll(t *testing.T) {
	counts := map[uint8]int{}
	r := rand.New(rand.NewSource(10))
	for range 1500 {
		var p api.Press
		notes := map[int]api.Span{}
		all := increasing(r, 1+r.Intn(10))
		for i, id := range all {
			x := api.Pressing{Id: id, Press: 1}
			if i < len(all)-1 && r.Intn(5) > 0 {
				x.To = all[i+1+r.Intn(min(2, len(all)-1-i))]
				lo := r.Intn(2) * r.Intn(5)
				notes[id] = span(lo, lo+r.Intn(2)*r.Intn(5))
				p.Weighings = append(p.Weighings, api.Weighing{Number: i + 1, Pressing: id, Kind: api.WeighParings, Ounces: notes[id]})
			}
			p.Pressings = append(p.Pressings, x)
		}
		m := random(r, 1+r.Intn(9), 2)
		want := with(m, func(m *api.Marks) {
			for i := range m.Batches {
				lead(m, i, p, notes)
			}
		})
		n, e := mark.Led(m, p)
		if mark.Check(want) != api.OK {
			t.Fatal(want)
		}
		if !same(n, want) || e != api.OK {
			t.Fatal(m, p, n, e, want)
		}
		for _, b := range want.Batches {
			if b.From != 0 {
				counts[b.Round]++
			}
		}
	}
	if counts[api.KnownOpen] < 200 || counts[api.KnownYes] < 200 {
		t.Error(counts)
	}
}

// lead tells of a batch whose parings went into it.
func lead(m *api.Marks, i int, p api.Press, notes map[int]api.Span) {
	b := &m.Batches[i]
	if !slices.ContainsFunc(p.Pressings, func(x api.Pressing) bool { return x.Id == b.Id }) {
		return
	}
	b.From, b.Round = 0, api.KnownNo
	for k := i - 1; k >= 0; k-- {
		id := m.Batches[k].Id
		for _, x := range p.Pressings {
			if x.Id == id && x.To == b.Id && notes[id].Hi > 0 {
				b.From, b.Round = id, api.KnownOpen
				if notes[id].Lo > 0 {
					b.Round = api.KnownYes
				}
			}
		}
	}
}

// TestLedTells checks N5 and P6.16: what a press tells of parings tells whether the batch into which they go is pure.
func TestLedTells(t *testing.T) {
	m := line(2, 1, 1)
	for i := range m.Batches {
		m.Batches[i].Stone = i + 1
	}
	p := api.Press{Pressings: []api.Pressing{{Id: 1, Press: 1, To: 3}, {Id: 2, Press: 1, To: 3}, {Id: 3, Press: 1}}}
	for _, x := range []struct {
		ounces api.Span
		want   uint8
	}{{span(0, 1000000), api.KnownOpen}, {span(1, 5), api.KnownNo}, {span(0, 0), api.KnownYes}} {
		q, e := press.Weigh(p, api.Weighing{Number: 1, Pressing: 1, Kind: api.WeighParings, Ounces: x.ounces})
		n, f := mark.Led(m, q)
		if k, g := mark.Pure(n, 3); k != x.want || e != api.OK || f != api.OK || g != api.OK {
			t.Error(x, n, k, e, f, g)
		}
	}
}
