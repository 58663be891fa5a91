package turn_test

import (
	"math/rand"
	"slices"
	"testing"

	"oilcake/api"
	"oilcake/press"
	"oilcake/turn"
)

// TestExamplesPay checks P9.6 and P9.7 by the chapter's examples.
func TestExamplesPay(t *testing.T) {
	r := example()
	if l, e := turn.Paid(r, [][]int{ints(1, 2), ints(1, 2, 3)}); !slices.Equal(l, ints(67, 67, 16)) || e != api.OK {
		t.Error(l, e)
	}
	for man, want := range map[int]api.Span{1: span(0, 150), 3: span(0, 50)} {
		if s, e := turn.Pay(r, man); s != want || e != api.OK {
			t.Error(man, s, e)
		}
	}
	if s, e := turn.Whole(r); s != span(100, 150) || e != api.OK {
		t.Error(s, e)
	}
	if least, most, e := turn.Ounce(r, 1); least != (api.Part{Num: 2, Den: 1}) || most != (api.Part{Num: 5, Den: 2}) || e != api.OK {
		t.Error(least, most, e)
	}
}

// TestPaidPennies checks P9.6: pence that are left go to the least Ids of those who were there; nothing is paid where nobody was, and a shift without pence pays nobody.
func TestPaidPennies(t *testing.T) {
	r := blank(4, 2)
	for _, x := range []struct {
		first, second int
		there         [][]int
		want          []int
	}{
		{10, 0, [][]int{ints(1, 2, 3, 4), nil}, ints(3, 3, 2, 2)},
		{11, 0, [][]int{ints(1, 2, 3, 4), nil}, ints(3, 3, 3, 2)},
		{12, 0, [][]int{ints(1, 2, 3, 4), nil}, ints(3, 3, 3, 3)},
		{13, 0, [][]int{ints(1, 2, 3, 4), nil}, ints(4, 3, 3, 3)},
		{1, 0, [][]int{ints(2, 4), nil}, ints(0, 1, 0, 0)},
		{2, 0, [][]int{ints(2, 3, 4), nil}, ints(0, 1, 1, 0)},
		{3, 2, [][]int{ints(2, 4), ints(3, 4)}, ints(0, 2, 1, 2)},
		{3, 3, [][]int{ints(2, 4), ints(3, 4)}, ints(0, 2, 2, 2)},
		{5, 7, [][]int{nil, ints(4)}, ints(0, 0, 0, 7)},
		{5, 7, [][]int{ints(4), nil}, ints(0, 0, 0, 5)},
		{5, 7, [][]int{nil, nil}, ints(0, 0, 0, 0)},
		{0, 0, [][]int{ints(1, 2), ints(3)}, ints(0, 0, 0, 0)},
		{1000000, 1000000, [][]int{ints(1, 2, 3), ints(1, 2, 3)}, ints(666668, 666666, 666666, 0)},
		{1000000, 999999, [][]int{ints(4), ints(4)}, ints(0, 0, 0, 1999999)},
	} {
		r.Shifts[0].Pence, r.Shifts[1].Pence = x.first, x.second
		if l, e := turn.Paid(r, x.there); !slices.Equal(l, x.want) || e != api.OK {
			t.Error(x, l, e)
		}
	}
}

// TestPaidUntrue checks P9.6: those who were there need not be so by the notes, nor do these need a truth.
func TestPaidUntrue(t *testing.T) {
	for _, r := range []api.Roll{example(), contradicted()} {
		if l, e := turn.Paid(r, [][]int{ints(3), ints(1, 3)}); !slices.Equal(l, ints(25, 0, 125)) || e != api.OK {
			t.Error(l, e)
		}
	}
}

func sum(l []int) int {
	all := 0
	for _, n := range l {
		all += n
	}
	return all
}

// owed is all pence of shifts at which somebody was.
func owed(r api.Roll, there [][]int) int {
	all := 0
	for i, men := range there {
		if len(men) > 0 {
			all += r.Shifts[i].Pence
		}
	}
	return all
}

// TestPaid checks P9.6 penny by penny, and P9.15: what all men get is together the Pence of the shifts at which somebody was, and no two who were there differ by more than a penny.
func TestPaid(t *testing.T) {
	r := rand.New(rand.NewSource(31))
	for range 300 {
		l := random(r, r.Intn(5), r.Intn(5), r.Intn(4))
		for i := range l.Shifts {
			l.Shifts[i].Pence %= 1000
		}
		there := names(l, r.Intn(1<<(len(l.Men)*len(l.Shifts))))
		got, e := turn.Paid(l, there)
		want := dealt(l, there)
		for i, man := range l.Men {
			if e != api.OK || len(got) != len(l.Men) || got[i] != want[man] {
				t.Fatal(l, there, got, want, e)
			}
		}
		if sum(got) != owed(l, there) {
			t.Error(l, there, got)
		}
		for i := range there {
			alone := make([][]int, len(there))
			alone[i] = there[i]
			paid, _ := turn.Paid(l, alone)
			var present []int
			for k, man := range l.Men {
				if slices.Contains(there[i], man) {
					present = append(present, paid[k])
				} else if paid[k] != 0 {
					t.Error(l, alone, paid)
				}
			}
			if len(present) > 0 && slices.Max(present)-slices.Min(present) > 1 || !slices.IsSortedFunc(present, func(x, y int) int { return y - x }) {
				t.Error(l, alone, paid)
			}
		}
	}
}

// TestPay checks P9.6 and P9.17 by what is paid in each truth of random rolls: all is within what is told, and both ends come about.
func TestPay(t *testing.T) {
	check := func(r *rand.Rand, l api.Roll) {
		var each [4][]int
		var whole []int
		for _, x := range truths(l) {
			there := names(l, x)
			paid, _ := turn.Paid(l, there)
			for i, pence := range paid {
				each[i] = append(each[i], pence)
			}
			whole = append(whole, owed(l, there))
		}
		s, e := turn.Whole(l)
		if len(whole) == 0 {
			if e != api.ErrBad {
				t.Error(l, s, e)
			}
			return
		}
		if s != span(slices.Min(whole), slices.Max(whole)) || e != api.OK {
			t.Error(l, s, e)
		}
		for i, man := range l.Men {
			if s, e := turn.Pay(l, man); s != span(slices.Min(each[i]), slices.Max(each[i])) || e != api.OK {
				t.Error(l, man, s, e)
			}
		}
	}
	some(32, 200, 8, 10, check)
	some(33, 6, 16, 20, check)
}

// TestPayTogether checks P9.6: what men get at least and at most depends on who was there together, also at several shifts.
func TestPayTogether(t *testing.T) {
	r := with(blank(2, 2), not(1, 1), was(2, 1), not(1, 1), not(1, 2), was(1, 1), was(1, 2)) // 1 was at one of both, at 1 not alone
	r.Shifts[0].Pence, r.Shifts[1].Pence = 101, 60
	for man, want := range map[int]api.Span{1: span(30, 60), 2: span(0, 161-30)} {
		if s, e := turn.Pay(r, man); s != want || e != api.OK {
			t.Error(man, s, e)
		}
	}
	if s, e := turn.Whole(r); s != span(60, 161) || e != api.OK {
		t.Error(s, e)
	}
}

// TestOunce checks P9.7: pence by what oil there is at most, and at least, in lowest terms; also oil that other weights leave.
func TestOunce(t *testing.T) {
	for _, x := range []struct {
		pence, lo, hi int
		least, most   api.Part
	}{
		{100, 40, 50, api.Part{Num: 2, Den: 1}, api.Part{Num: 5, Den: 2}},
		{100, 50, 50, api.Part{Num: 2, Den: 1}, api.Part{Num: 2, Den: 1}},
		{7, 3, 5, api.Part{Num: 7, Den: 5}, api.Part{Num: 7, Den: 3}},
		{0, 3, 5, api.Part{Num: 0, Den: 1}, api.Part{Num: 0, Den: 1}},
		{1, 1, 1000000, api.Part{Num: 1, Den: 1000000}, api.Part{Num: 1, Den: 1}},
		{1000000, 1, 1000000, api.Part{Num: 1, Den: 1}, api.Part{Num: 1000000, Den: 1}},
		{999999, 1000, 999999, api.Part{Num: 1, Den: 1}, api.Part{Num: 999999, Den: 1000}},
		{12, 8, 18, api.Part{Num: 2, Den: 3}, api.Part{Num: 3, Den: 2}},
	} {
		r := example()
		r.Shifts[0].Pence, r.Press.Weighings[0].Ounces = x.pence, span(x.lo, x.hi)
		if least, most, e := turn.Ounce(r, 1); least != x.least || most != x.most || e != api.OK {
			t.Error(x, least, most, e)
		}
	}
	r := example()
	r.Press.Weighings = nil
	for i, kind := range []int{api.WeighSeed, api.WeighCake, api.WeighDirt, api.WeighSteam, api.WeighParings} {
		ounces := []api.Span{span(90, 100), span(10, 20), span(20, 20), span(0, 10), span(0, 0)}[i]
		r.Press.Weighings = append(r.Press.Weighings, api.Weighing{Number: i + 1, Pressing: 2, Kind: kind, Ounces: ounces})
	}
	if s, e := press.Span(r.Press, 2, api.WeighOil); s != span(40, 70) || e != api.OK {
		t.Error(s, e)
	}
	if least, most, e := turn.Ounce(r, 2); least != (api.Part{Num: 5, Den: 7}) || most != (api.Part{Num: 5, Den: 4}) || e != api.OK {
		t.Error(least, most, e)
	}
}

// TestOunceUntrue checks P9.7 and P9.1: what an ounce costs does not depend on whether the notes have a truth.
func TestOunceUntrue(t *testing.T) {
	if least, most, e := turn.Ounce(contradicted(), 1); least != (api.Part{Num: 2, Den: 1}) || most != (api.Part{Num: 5, Den: 2}) || e != api.OK {
		t.Error(least, most, e)
	}
}
