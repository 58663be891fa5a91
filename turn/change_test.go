package turn_test

import (
	"math/rand"
	"reflect"
	"slices"
	"testing"

	"oilcake/api"
	"oilcake/turn"
)

// gaps is the example with the Numbers 10, 20, 30 and 40.
func gaps() api.Roll {
	r := example()
	for i := range r.Notes {
		r.Notes[i].Number *= 10
	}
	return r
}

// TestPut checks P9.8: a note comes to its place by its Number, also where it is said already, or leaves no truth.
func TestPut(t *testing.T) {
	for number, want := range map[int][]int{
		1: ints(1, 10, 20, 30, 40), 9: ints(9, 10, 20, 30, 40), 11: ints(10, 11, 20, 30, 40), 25: ints(10, 20, 25, 30, 40), 39: ints(10, 20, 30, 39, 40), 41: ints(10, 20, 30, 40, 41), 9999: ints(10, 20, 30, 40, 9999),
	} {
		x := note(number, was(3, 1), was(3, 1))
		r, e := turn.Put(gaps(), x)
		if e != api.OK || !slices.Equal(numbers(r), want) || !slices.Contains(r.Notes, x) {
			t.Error(number, r.Notes, e)
		}
		if n := count(t, r); n != 0 {
			t.Error(number, n)
		}
		r.Notes = slices.DeleteFunc(r.Notes, func(y api.Note) bool { return y == x })
		if !reflect.DeepEqual(r, gaps()) {
			t.Error(number, r)
		}
	}
	for _, number := range ints(10, 20, 30, 40) {
		if r, e := turn.Put(gaps(), note(number, was(1, 1), was(1, 1))); e != api.ErrNote {
			t.Error(number, r, e)
		}
	}
}

// TestPutFull checks P9.8: the 24th note is put, the 25th is not.
func TestPutFull(t *testing.T) {
	r := example()
	r.Notes = same(23)
	r, e := turn.Put(r, note(1, was(1, 1), was(1, 1)))
	if e != api.OK || len(r.Notes) != 24 || r.Notes[0].Number != 1 {
		t.Error(r, e)
	}
	if _, e := turn.Put(r, note(2, was(1, 1), was(1, 1))); e != api.ErrFull {
		t.Error(e)
	}
	if _, e := turn.Put(r, api.Note{}); e != api.ErrFull {
		t.Error(e)
	}
}

// TestStrike checks P9.8: just the notes with these Numbers are gone.
func TestStrike(t *testing.T) {
	for _, x := range []struct{ l, want []int }{
		{nil, ints(10, 20, 30, 40)}, {ints(10), ints(20, 30, 40)}, {ints(40), ints(10, 20, 30)}, {ints(20, 30), ints(10, 40)}, {ints(10, 40), ints(20, 30)}, {ints(10, 20, 30, 40), nil},
	} {
		want := gaps()
		want.Notes = nil
		for _, y := range gaps().Notes {
			if slices.Contains(x.want, y.Number) {
				want.Notes = append(want.Notes, y)
			}
		}
		r, e := turn.Strike(gaps(), x.l)
		if len(r.Notes) == 0 {
			r.Notes = nil
		}
		if !reflect.DeepEqual(r, want) || e != api.OK {
			t.Error(x, r, e)
		}
	}
}

// TestPutStrike checks P9.8 with random rolls: a note that is struck and put again changes nothing, and both rolls are valid.
func TestPutStrike(t *testing.T) {
	some(41, 200, 16, 24, func(r *rand.Rand, l api.Roll) {
		if len(l.Notes) == 0 {
			return
		}
		x := l.Notes[r.Intn(len(l.Notes))]
		less, e := turn.Strike(l, ints(x.Number))
		if e != api.OK || turn.Check(less) != api.OK || !slices.Equal(less.Notes, striking(l, ints(x.Number)).Notes) {
			t.Error(l, less, e)
		}
		if again, e := turn.Put(less, x); e != api.OK || !slices.Equal(again.Notes, l.Notes) || !slices.Equal(again.Men, l.Men) || !slices.Equal(again.Shifts, l.Shifts) || !slices.Equal(again.Press.Pressings, l.Press.Pressings) {
			t.Error(l, again, e)
		}
	})
}
