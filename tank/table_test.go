package tank_test

import (
	"math/big"
	"math/rand"
	"testing"

	"oilcake/api"
	"oilcake/tank"
)

// TestTableExamples checks the chapter's examples of tanks (P3.2).
func TestTableExamples(t *testing.T) {
	for eighth, want := range map[int]api.Part{12: part(20, 1), 9: part(25, 2), 0: part(0, 1), 8: part(10, 1), 31: part(95, 1), 32: part(100, 1)} {
		if v, e := tank.Volume(table(), eighth); v != want || e != api.OK {
			t.Error(eighth, v, e)
		}
	}
	for pints, want := range map[int]api.Part{45: part(20, 1), 35: part(52, 3), 0: part(0, 1), 1: part(4, 5), 10: part(8, 1), 60: part(24, 1), 100: part(32, 1)} {
		if v, e := tank.Eighth(table(), pints); v != want || e != api.OK {
			t.Error(pints, v, e)
		}
	}
	for dip, want := range map[api.Span]api.Span{span(9, 12): span(13, 20), span(0, 0): span(0, 0), span(0, 32): span(0, 100), span(32, 32): span(100, 100), span(9, 10): span(13, 15)} {
		if s, e := tank.Range(table(), dip); s != want || e != api.OK {
			t.Error(dip, s, e)
		}
	}
	if s, e := tank.Range(table(), span(9, 9)); s != span(0, 0) || e != api.ErrNone {
		t.Error(s, e)
	}
	// two eighths of a tank that holds a pint at an inch say none, all others some
	for lo := range 9 {
		for hi := lo; hi <= 8; hi++ {
			s, e := tank.Range(steps(0, 0, 1), span(lo, hi))
			if none := lo > 0 && hi < 8; none != (e == api.ErrNone) || none && s != span(0, 0) || !none && s != span(min(lo, 1), hi/8) {
				t.Error(lo, hi, s, e)
			}
		}
	}
}

// tables are tanks of all sorts, the widest ones first.
func tables(count int) []api.Tank {
	full := steps(50, 160)
	for i := range 20 {
		full.Pints = append(full.Pints, 30*(i+1))
	}
	l := []api.Tank{full, steps(0, 0, 1), steps(50, 8, 600), steps(0, 0, 7, 1, 590, 2), table()}
	r := rand.New(rand.NewSource(1))
	for range count {
		l = append(l, small(r), great(r))
	}
	return l
}

// TestVolume checks P3.2 and P3.11: at each eighth a tank holds what lies straight between its inches, at a higher one more; read back, this returns to the eighth.
func TestVolume(t *testing.T) {
	for _, x := range tables(60) {
		var before *big.Rat
		for eighth := range 8*len(x.Pints) - 7 {
			v, e := tank.Volume(x, eighth)
			want := straight(x, whole(eighth))
			if e != api.OK || v != part(int(want.Num().Int64()), int(want.Denom().Int64())) {
				t.Fatal(x, eighth, v, e)
			}
			if before != nil && want.Cmp(before) <= 0 {
				t.Fatal(x, eighth, v)
			}
			before = rat(v)
			if v.Den == 1 {
				if back, e := tank.Eighth(x, v.Num); back != part(eighth, 1) || e != api.OK {
					t.Fatal(x, eighth, v, back, e)
				}
			}
		}
	}
}

// TestEighth checks P3.2 and P3.11: at the eighth that is told a tank holds these pints; more of them stand higher.
func TestEighth(t *testing.T) {
	for _, x := range tables(60) {
		before := whole(-1)
		for pints := range top(x) + 1 {
			v, e := tank.Eighth(x, pints)
			if e != api.OK || v.Den <= 0 || new(big.Int).GCD(nil, nil, big.NewInt(int64(v.Num)), big.NewInt(int64(v.Den))).Int64() != 1 {
				t.Fatal(x, pints, v, e)
			}
			if straight(x, rat(v)).Cmp(whole(pints)) != 0 || rat(v).Cmp(before) <= 0 {
				t.Fatal(x, pints, v)
			}
			before = rat(v)
		}
	}
}

// TestRange checks P3.2: a dip says all whole pints between what the tank holds at its ends, and no other ones.
func TestRange(t *testing.T) {
	none := 0
	for _, x := range tables(15) {
		r := rand.New(rand.NewSource(2))
		for range 60 {
			dip := some(r, 8*len(x.Pints)-8, 9)
			s, e := tank.Range(x, dip)
			said := 0
			for pints, is := range dipped(x, dip) {
				if is != (e == api.OK && pints >= s.Lo && pints <= s.Hi) {
					t.Fatal(x, dip, s, e, pints)
				} else if is {
					said++
				}
			}
			if e != api.OK && (e != api.ErrNone || s != span(0, 0)) || (said == 0) != (e == api.ErrNone) || e == api.OK && said != s.Hi-s.Lo+1 {
				t.Fatal(x, dip, s, e, said)
			}
			if said == 0 {
				none++
			}
		}
	}
	if none < 30 {
		t.Error(none)
	}
}
