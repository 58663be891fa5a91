package wheel_test

import (
	"slices"
	"testing"

	"oilcake/api"
	"oilcake/wheel"
)

// common is the greatest number that divides two others.
func common(a, b int) int {
	n := min(a, b)
	for a%n != 0 || b%n != 0 {
		n--
	}
	return n
}

// TestMeet checks P10.4: all wheels with all others.
func TestMeet(t *testing.T) {
	for _, x := range [][4]int{{20, 30, 3, 2}, {30, 20, 2, 3}, {21, 40, 40, 21}, {6, 6, 1, 1}, {6, 120, 20, 1}, {120, 6, 1, 20}, {120, 119, 119, 120}} {
		if turns, others, e := wheel.Meet(x[0], x[1]); turns != x[2] || others != x[3] || e != api.OK {
			t.Error(x, turns, others, e)
		}
	}
	for one := 6; one <= 120; one++ {
		for other := 6; other <= 120; other++ {
			n := common(one, other)
			if turns, others, e := wheel.Meet(one, other); turns != other/n || others != one/n || e != api.OK {
				t.Fatal(one, other, turns, others, e)
			}
		}
	}
}

// struck are all teeth that teeth of two wheels strike, tooth by tooth, until the first two meet again, and after how many teeth they do.
func struck(one, other int) (by map[int][]int, teeth int) {
	by = map[int][]int{}
	a, b := 0, 0
	for {
		by[a] = append(by[a], b)
		teeth++
		a, b = a+1, b+1
		if a == one {
			a = 0
		}
		if b == other {
			b = 0
		}
		if a == 0 && b == 0 {
			return by, teeth
		}
	}
}

// TestTeeth checks P10.4 and P10.11: teeth meet tooth by tooth as it is told, until the first two meet again.
func TestTeeth(t *testing.T) {
	for _, one := range []int{6, 7, 12, 20, 21, 60, 119, 120} {
		for _, other := range []int{6, 8, 9, 30, 40, 42, 118, 120} {
			by, teeth := struck(one, other)
			if turns, others, e := wheel.Meet(one, other); turns*one != teeth || others*other != teeth || e != api.OK {
				t.Error(one, other, turns, others, e)
			}
			for tooth := range one {
				slices.Sort(by[tooth])
				if l, e := wheel.Strikes(one, other, tooth); !slices.Equal(l, by[tooth]) || e != api.OK {
					t.Error(one, other, tooth, l, e)
				}
			}
		}
	}
}

// TestStrikes checks P10.4: which teeth of all wheels some teeth strike, in increasing order.
func TestStrikes(t *testing.T) {
	for _, x := range []struct {
		one, other, tooth int
		want              []int
	}{
		{20, 30, 7, ints(7, 17, 27)},
		{20, 30, 17, ints(7, 17, 27)},
		{30, 20, 27, ints(7, 17)},
		{6, 6, 5, ints(5)},
		{120, 6, 119, ints(5)},
		{120, 7, 119, ints(0, 1, 2, 3, 4, 5, 6)},
		{6, 12, 0, ints(0, 6)},
	} {
		if l, e := wheel.Strikes(x.one, x.other, x.tooth); !slices.Equal(l, x.want) || e != api.OK {
			t.Error(x, l, e)
		}
	}
	for one := 6; one <= 120; one += 3 {
		for other := 6; other <= 120; other += 2 {
			n := common(one, other)
			for _, tooth := range []int{0, one / 2, one - 1} {
				var want []int
				for k := tooth % n; k < other; k += n {
					want = append(want, k)
				}
				if l, e := wheel.Strikes(one, other, tooth); !slices.Equal(l, want) || e != api.OK {
					t.Fatal(one, other, tooth, l, e)
				}
			}
		}
	}
}
