package foreman_test

import (
	"math"
	"math/rand"
	"slices"
	"strconv"
	"strings"
	"testing"

	"oilcake/api"
	"oilcake/foreman"
)

func sameOrder(a, b api.Order) bool {
	return a.Verb == b.Verb && slices.Equal(a.Numbers, b.Numbers) && a.Signs == b.Signs
}

func order(verb int, numbers ...int) api.Order { return api.Order{Verb: verb, Numbers: numbers} }

// words are those of all verbs, by their numbers.
func words() []string {
	return []string{
		"", "draw", "weigh", "all", "flow", "pour", "measure", "sell", "press", "done", "water", "probe", "hold", "test", "put", "give",
		"warn", "turn", "today", "note", "pay", "wire", "read",
	}
}

// counts are how many numbers orders can have, by their verbs.
func counts() [][]int {
	return [][]int{
		nil, ints(2), ints(5), ints(1), ints(4), ints(2, 4, 6, 8, 10, 12, 14, 16), ints(1), ints(4), ints(0), ints(2),
		ints(2, 3, 4, 5, 6, 7, 8, 9, 10, 11, 12, 13), ints(4), ints(1), ints(4), ints(3), ints(3), ints(1), ints(0, 1, 2, 3), ints(0), ints(7), ints(1), ints(0), nil,
	}
}

// TestOrders checks P12.2 and P12.11: of each verb orders have so many numbers as the table tells, and no others.
func TestOrders(t *testing.T) {
	for verb, word := range words() {
		for n := range 20 {
			o := api.Order{Verb: verb}
			s := word
			for i := range n {
				o.Numbers = append(o.Numbers, 100*i)
				s += " " + strconv.Itoa(100*i)
			}
			is := slices.Contains(counts()[verb], n)
			p, e := foreman.Parse(s)
			said, f := foreman.Say(o)
			if is && (!sameOrder(p, o) || e != api.OK || said != s || f != api.OK) {
				t.Error(s, p, e, said, f)
			}
			if !is && (!sameOrder(p, api.Order{}) || e != api.ErrLine || said != "" || f != api.ErrLine) {
				t.Error(s, p, e, said, f)
			}
		}
	}
}

// TestFigures checks P12.2: a number is from 0 to MaxFigure, in digits, with no zero before others.
func TestFigures(t *testing.T) {
	for _, n := range ints(0, 1, 9, 10, 100, 999999, 1000000, 9999998, 9999999) {
		s := "draw " + strconv.Itoa(n) + " " + strconv.Itoa(9999999-n)
		o := order(api.VerbDraw, n, 9999999-n)
		if p, e := foreman.Parse(s); !sameOrder(p, o) || e != api.OK {
			t.Error(s, p, e)
		}
		if x, e := foreman.Say(o); x != s || e != api.OK {
			t.Error(o, x, e)
		}
	}
	for _, n := range []int{-1, 10000000, 10000001, math.MaxInt, math.MinInt, math.MaxInt32, math.MaxUint32 + 1, math.MinInt32, -9999999} {
		for _, o := range []api.Order{order(api.VerbDraw, n, 0), order(api.VerbDraw, 0, n), order(api.VerbHold, n), order(api.VerbTurn, 1, 2, n)} {
			if s, e := foreman.Say(o); s != "" || e != api.ErrLine {
				t.Error(o, s, e)
			}
			if is, e := foreman.Asks(o); is || e != api.ErrLine {
				t.Error(o, is, e)
			}
		}
		s := "hold " + strconv.Itoa(n)
		if o, e := foreman.Parse(s); !sameOrder(o, api.Order{}) || e != api.ErrLine {
			t.Error(s, o, e)
		}
	}
}

// noLines are lines that are those of no order.
func noLines() []string {
	l := []string{
		"", " ", "go", "?", "no", "well", "Draw 3 1", "DRAW 3 1", "drawn 3 1", "dra 3 1", "draw3 1", "3 1", "3 draw 1", "0", "1", "-", "--",
		"draw", "draw ", "draw 3", "draw 3 ", "draw 3 1 0", "draw  3 1", "draw 3  1", " draw 3 1", "draw 3 1 ", "draw\t3 1", "draw 3\t1",
		"draw 3 1\n", "\ndraw 3 1", "draw 3 1\r", "draw 3\n1", "draw 3 1\x00", "draw 3 1\ndraw 3 1",
		"draw 03 1", "draw 3 01", "draw 00 1", "draw +3 1", "draw 3 -1", "draw -0 1", "draw 3. 1", "draw 3,1", "draw 3 1.0", "draw 0x3 1", "draw 1_0 1",
		"draw 3 a", "draw a 1", "draw 3 \xff", "draw ٣ 1", "draw 10000000 1", "draw 3 10000000", "draw 3 99999999999999999999", "draw 3 00000001",
		"hold 18446744073709551617", "press 1", "press ", " press", "press.", "today 0", "wire -", "wire 1", "turn ", "turn 1 2 3 4", "turn 1  2",
		"pour", "pour 0", "pour 0 1 2", "pour" + strings.Repeat(" 0 1", 9), "pour" + strings.Repeat(" 0 1", 8) + " 0", "pour" + strings.Repeat(" 0 1", 4000),
		"water", "water 1", "water" + strings.Repeat(" 1", 14), "water" + strings.Repeat(" 1", 5000),
		"read", "read ", "read  -", "read - ", "read - -", "read 5", "read 0 -", "read - 0", "read x", "read -x", "read x-", "read —", "read …", "read -\n", "read -\xff", " read -", "Read -", "reads -", "rea -", "-", "read-",
		"read " + strings.Repeat("-", 19996), "read " + strings.Repeat(".", 40000), strings.Repeat(" ", 20000), strings.Repeat("draw ", 4000),
		strings.Repeat("x", 100000), strings.Repeat("\n", 10),
	}
	for _, word := range words()[1:22] {
		l = append(l, word+" -", word+" -.", word+" x", word+" 1 x", word+" ", " "+word, word+"\n")
	}
	return l
}

// TestNoLine checks P12.2: ErrLine for lines that are those of no order.
func TestNoLine(t *testing.T) {
	for _, s := range noLines() {
		if o, e := foreman.Parse(s); !sameOrder(o, api.Order{}) || e != api.ErrLine {
			t.Errorf("%.40q %v %d", s, o, e)
		}
		if verbOf(s) != 0 {
			t.Errorf("%.40q", s)
		}
	}
}

// TestNoOrder checks P12.2: ErrLine for orders that are not valid.
func TestNoOrder(t *testing.T) {
	long := strings.Repeat("-", 19996)
	l := []api.Order{
		{}, {Verb: -1}, {Verb: 23}, {Verb: math.MaxInt}, {Verb: math.MinInt}, {Verb: 0, Numbers: ints(1)}, {Verb: 23, Numbers: ints(1, 2)}, {Verb: 23, Signs: "-"},
		{Numbers: ints(3, 1), Signs: "draw"}, {Signs: "press"}, {Signs: "draw 3 1"}, {Signs: "read -"},
		{Verb: api.VerbRead}, {Verb: api.VerbRead, Numbers: ints(0)}, {Verb: api.VerbRead, Numbers: ints(0), Signs: "-"}, {Verb: api.VerbRead, Numbers: ints(5), Signs: "-"},
		{Verb: api.VerbRead, Signs: "x"}, {Verb: api.VerbRead, Signs: " "}, {Verb: api.VerbRead, Signs: " -"}, {Verb: api.VerbRead, Signs: "- "}, {Verb: api.VerbRead, Signs: "- -"},
		{Verb: api.VerbRead, Signs: "-\n"}, {Verb: api.VerbRead, Signs: "-\xff"}, {Verb: api.VerbRead, Signs: "5"}, {Verb: api.VerbRead, Signs: long}, {Verb: api.VerbRead, Signs: long + long},
		{Verb: api.VerbWire, Signs: "-"}, {Verb: api.VerbPress, Signs: " "}, {Verb: api.VerbTurn, Signs: "1"}, {Verb: api.VerbTurn, Signs: " 1"},
		{Verb: api.VerbTurn, Numbers: ints(1), Signs: "2"}, {Verb: api.VerbTurn, Numbers: ints(1), Signs: "."}, {Verb: api.VerbHold, Signs: "1"}, {Verb: api.VerbPour, Numbers: ints(0, 1), Signs: "1 2"},
		{Verb: api.VerbDraw, Numbers: ints(3), Signs: "1"}, {Verb: api.VerbTurn, Signs: long},
		{Verb: api.VerbTurn, Numbers: make([]int, 100000)}, {Verb: api.VerbPour, Numbers: make([]int, 18)}, {Verb: api.VerbPour, Numbers: make([]int, 17)}, {Verb: api.VerbWater, Numbers: make([]int, 100000)},
		{Verb: api.VerbRead, Numbers: make([]int, 100000), Signs: "-"},
	}
	for i, o := range l {
		s, e := foreman.Say(o)
		is, f := foreman.Asks(o)
		if s != "" || e != api.ErrLine || is || f != api.ErrLine {
			t.Error(i, s, e, is, f)
		}
	}
}

// TestSigns checks P12.2: an order to read has signs, at most so many that its line is not too long.
func TestSigns(t *testing.T) {
	for _, signs := range []string{"-", ".", "-.-", "..--", strings.Repeat(".", 100), strings.Repeat("-.", 9997) + "-"} {
		o := api.Order{Verb: api.VerbRead, Signs: signs}
		if p, e := foreman.Parse("read " + signs); !sameOrder(p, o) || e != api.OK {
			t.Error(len(signs), p, e)
		}
		if s, e := foreman.Say(o); s != "read "+signs || e != api.OK {
			t.Error(len(signs), s, e)
		}
		o.Numbers = []int{}
		if s, e := foreman.Say(o); s != "read "+signs || e != api.OK {
			t.Error(len(signs), s, e)
		}
		if is, e := foreman.Asks(o); is || e != api.OK {
			t.Error(len(signs), is, e)
		}
	}
}

// valid is an order of a verb.
func valid(verb int) api.Order {
	o := api.Order{Verb: verb}
	if verb == api.VerbRead {
		o.Signs = "-."
		return o
	}
	l := counts()[verb]
	o.Numbers = make([]int, l[len(l)-1])
	return o
}

// TestAsks checks P12.2: which orders change nothing.
func TestAsks(t *testing.T) {
	asks := ints(api.VerbAll, api.VerbMeasure, api.VerbPress, api.VerbHold, api.VerbWarn, api.VerbToday, api.VerbPay, api.VerbWire)
	for verb := 1; verb <= 22; verb++ {
		if is, e := foreman.Asks(valid(verb)); is != slices.Contains(asks, verb) || e != api.OK {
			t.Error(verb, is, e)
		}
	}
}

// spoiltLine is a line of which a sign or two are others, or gone, or more.
func spoiltLine(r *rand.Rand, s string) string {
	l := []byte(s)
	for range 1 + r.Intn(2) {
		i := r.Intn(len(l) + 1)
		c := " 0123456789-.adegnorwx"[r.Intn(22)]
		switch j := min(i+1, len(l)); r.Intn(3) {
		case 0:
			l = slices.Insert(l, i, c)
		case 1:
			l = slices.Delete(l, i, j)
		default:
			l = slices.Replace(l, i, j, c)
		}
	}
	return string(l)
}

// TestLanguage checks P12.2 and P12.11 with random lines, many of which are spoilt: they are read just if the grammar of the table allows them; a line that is read is said, an order that is said is read.
func TestLanguage(t *testing.T) {
	r := rand.New(rand.NewSource(2))
	seen := map[bool]int{}
	for range 60000 {
		verb := 1 + r.Intn(22)
		o := valid(verb)
		if l := counts()[verb]; l != nil {
			o.Numbers = o.Numbers[:l[r.Intn(len(l))]]
		}
		for i := range o.Numbers {
			o.Numbers[i] = []int{r.Intn(10), r.Intn(1000), r.Intn(10000000)}[r.Intn(3)]
		}
		s, e := foreman.Say(o)
		p, f := foreman.Parse(s)
		if e != api.OK || f != api.OK || !sameOrder(p, o) || verbOf(s) != verb {
			t.Fatal(o, s, e, p, f)
		}
		s = spoiltLine(r, s)
		o, e = foreman.Parse(s)
		is := verbOf(s) > 0
		seen[is]++
		if (e == api.OK) != is || o.Verb != verbOf(s) {
			t.Fatalf("%q %v %d", s, o, e)
		}
		if !is {
			continue
		}
		if again, e := foreman.Say(o); again != s || e != api.OK {
			t.Fatalf("%q %v %q %d", s, o, again, e)
		}
	}
	if seen[true] < 5000 || seen[false] < 5000 {
		t.Error(seen)
	}
}
