package wire_test

import (
	"math/rand"
	"slices"
	"strings"
	"testing"

	"oilcake/api"
	"oilcake/press"
	"oilcake/turn"
	"oilcake/wire"
)

// signsOf are the signs of a number, told from its halves: each half is a digit before.
func signsOf(n int) string {
	digits, dots := "", ""
	for left := n + 1; left > 0; left /= 2 {
		digits = string(".-"[left%2]) + digits
		if left > 1 {
			dots += "."
		}
	}
	return dots + digits
}

// fileOf is the file of numbers.
func fileOf(l []int) string {
	s := ""
	for _, n := range l {
		s += signsOf(n)
	}
	return s
}

// TestWrite checks P11.6: how numbers are written, and which are none of a file.
func TestWrite(t *testing.T) {
	dots := strings.Repeat(".", 20)
	for _, x := range []struct {
		l    []int
		want string
		e    api.Errno
	}{
		{nil, "", api.OK},
		{[]int{}, "", api.OK},
		{ints(0, 3, 1), "-..-...-.", api.OK},
		{ints(0), "-", api.OK},
		{ints(1), ".-.", api.OK},
		{ints(2), ".--", api.OK},
		{ints(3), "..-..", api.OK},
		{ints(6), "..---", api.OK},
		{ints(7), "...-...", api.OK},
		{ints(1048574), dots[1:] + strings.Repeat("-", 20), api.OK},
		{ints(1048575), dots + "-" + dots, api.OK},
		{ints(0, 1048575, 0), "-" + dots + "-" + dots + "-", api.OK},
		{make([]int, 400), strings.Repeat("-", 400), api.OK},
		{slices.Repeat(ints(1048575), 400), strings.Repeat(dots+"-"+dots, 400), api.OK},
		{make([]int, 401), "", api.ErrFile},
		{ints(1048576), "", api.ErrFile},
		{ints(-1), "", api.ErrFile},
		{ints(0, 0, 1048576), "", api.ErrFile},
		{ints(0, -1, 0), "", api.ErrFile},
	} {
		if s, e := wire.Write(x.l); s != x.want || e != x.e {
			t.Error(x.l, s, e)
		}
		if x.e == api.OK {
			if l, e := wire.Numbers(x.want); !slices.Equal(l, x.l) || e != api.OK {
				t.Error(x.l, l, e)
			}
		}
	}
}

// TestWritten checks P11.6 and P11.13: numbers of all sizes are read as they were written.
func TestWritten(t *testing.T) {
	for from := 0; from < api.MaxNumber; from += 1 + from/3 {
		var l []int
		for i := range 40 {
			l = append(l, min(from+i, api.MaxNumber))
		}
		s, e := wire.Write(l)
		if s != fileOf(l) || e != api.OK {
			t.Fatal(l, s, e)
		}
		if k, e := wire.Numbers(s); !slices.Equal(k, l) || e != api.OK {
			t.Fatal(l, k, e)
		}
	}
}

// files are all files of at most so many signs, with their numbers.
func files(most int) map[string][]int {
	all := map[string][]int{}
	var add func(s string, l []int)
	add = func(s string, l []int) {
		all[s] = slices.Clone(l)
		for n := 0; len(s)+len(signsOf(n)) <= most; n++ {
			add(s+signsOf(n), append(l, n))
		}
	}
	add("", nil)
	return all
}

// TestNumbers checks P11.6: of all short signs those are files that numbers are written as.
func TestNumbers(t *testing.T) {
	all := files(13)
	for n := range 14 {
		for _, s := range allSigns(n) {
			want, is := all[s]
			l, e := wire.Numbers(s)
			if is && (!slices.Equal(l, want) || e != api.OK) || !is && (len(l) > 0 || e != api.ErrFile) {
				t.Fatal(s, l, e, want)
			}
		}
	}
}

// TestNoFile checks P11.6, P11.7 and R7: what is no file.
func TestNoFile(t *testing.T) {
	dots := strings.Repeat(".", 20)
	for _, s := range []string{
		".", "..", "-.", ".-", "..-.", "-..-.", "...-..", dots, dots + "-", dots + "-" + dots[1:], dots + dots,
		dots + "-" + dots[1:] + "-", dots + "--" + dots[1:], dots + "-" + "-" + dots[2:] + "-",
		dots + ".-" + dots + ".", dots + dots + "-" + dots + dots, strings.Repeat(".", 62) + "-" + strings.Repeat(".", 62), strings.Repeat(".", 63) + "-" + strings.Repeat(".", 63), strings.Repeat(".", 64) + "-" + strings.Repeat(".", 64), strings.Repeat(".", 64) + "-" + strings.Repeat(".", 63) + "-",
		strings.Repeat(".", 1000) + "-" + strings.Repeat(".", 1000), strings.Repeat(".", 100000), strings.Repeat(".", 100000) + strings.Repeat("-", 100001),
		strings.Repeat("-", 401), strings.Repeat("-", 400) + ".", strings.Repeat("-", 400) + ".-.", strings.Repeat("-", 100000), strings.Repeat(".-.", 400) + "-",
		"x", "-x", "x-", ".x.", ".-x", "..-x.", "..-.x", "..x..", ".–.", "—", "0", "1", " ", "- ", " -", "\n", "-\n", "\x00", "\xff", "-\xff", ".-\xff", ".\xff.", ".é", ".-é", "…", ". -.", "-,-",
	} {
		if l, e := wire.Numbers(s); len(l) > 0 || e != api.ErrFile {
			t.Error(s, l, e)
		}
		if p, e := wire.ToPress(s); !samePress(p, api.Press{}) || e != api.ErrFile {
			t.Error(s, p, e)
		}
		if r, e := wire.ToRoll(s); !sameRoll(r, api.Roll{}) || e != api.ErrFile {
			t.Error(s, r, e)
		}
	}
}

// TestFiles checks P11.13: a file and a file are a file, of the numbers of the one and of the other, if they are not too many.
func TestFiles(t *testing.T) {
	r := rand.New(rand.NewSource(1))
	some := func() []int {
		var l []int
		for range r.Intn(300) {
			l = append(l, r.Intn(1<<r.Intn(21)))
		}
		return l
	}
	fit, many := 0, 0
	for range 300 {
		one, other := some(), some()
		s, e := wire.Write(one)
		x, f := wire.Write(other)
		if e != api.OK || f != api.OK {
			t.Fatal(e, f)
		}
		l, e := wire.Numbers(s + x)
		if both := slices.Concat(one, other); len(both) > 400 {
			many++
			if len(l) > 0 || e != api.ErrFile {
				t.Fatal(len(both), e)
			}
		} else if fit++; !slices.Equal(l, both) || e != api.OK {
			t.Fatal(both, l, e)
		}
	}
	if fit < 50 || many < 30 {
		t.Error(fit, many)
	}
}

// pressNumbers and rollNumbers are the numbers of presses and rolls, each field by itself.
func pressNumbers(p api.Press) []int {
	l := ints(len(p.Pressings))
	for _, x := range p.Pressings {
		l = append(append(append(append(l, x.Id), x.Day), x.Press), x.To)
	}
	l = append(l, len(p.Weighings))
	for _, x := range p.Weighings {
		l = append(append(append(append(append(l, x.Number), x.Pressing), x.Kind), x.Ounces.Lo), x.Ounces.Hi)
	}
	return l
}

func rollNumbers(r api.Roll) []int {
	flag := map[bool]int{true: 1}
	l := append(pressNumbers(r.Press), len(r.Men))
	l = append(l, r.Men...)
	l = append(l, len(r.Shifts))
	for _, x := range r.Shifts {
		l = append(append(l, x.Pressing), x.Pence)
	}
	l = append(l, len(r.Notes))
	for _, x := range r.Notes {
		l = append(l, x.Number, x.One.Man, x.One.Pressing, flag[x.One.There], x.Other.Man, x.Other.Pressing, flag[x.Other.There])
	}
	return l
}

// checkPress checks that a press is read as it was written.
func checkPress(t *testing.T, p api.Press) string {
	t.Helper()
	s, e := wire.OfPress(p)
	if s != fileOf(pressNumbers(p)) || e != api.OK {
		t.Fatal(p, s, e)
	}
	if l, e := wire.Numbers(s); !slices.Equal(l, pressNumbers(p)) || e != api.OK {
		t.Fatal(p, l, e)
	}
	if q, e := wire.ToPress(s); !samePress(p, q) || e != api.OK {
		t.Fatal(p, q, e)
	}
	return s
}

// checkRoll checks that a roll is read as it was written.
func checkRoll(t *testing.T, r api.Roll) string {
	t.Helper()
	s, e := wire.OfRoll(r)
	if s != fileOf(rollNumbers(r)) || e != api.OK {
		t.Fatal(r, s, e)
	}
	if l, e := wire.Numbers(s); !slices.Equal(l, rollNumbers(r)) || e != api.OK {
		t.Fatal(r, l, e)
	}
	if q, e := wire.ToRoll(s); !sameRoll(r, q) || e != api.OK {
		t.Fatal(r, q, e)
	}
	return s
}

// TestOfPress checks P11.7 and P11.14: presses are read as they were written, also the greatest ones, and those without a truth.
func TestOfPress(t *testing.T) {
	if s := checkPress(t, api.Press{}); s != "--" {
		t.Error(s)
	}
	checkPress(t, api.Press{Pressings: []api.Pressing{}, Weighings: []api.Weighing{}})
	if s := checkPress(t, api.Press{Pressings: []api.Pressing{{Id: 2, Day: 0, Press: 1, To: 0}}}); s != ".-."+".--"+"-"+".-."+"-"+"-" {
		t.Error(s)
	}
	checkPress(t, examplePress())
	untrue := examplePress()
	untrue.Weighings = append(untrue.Weighings, weighing(13, 3, api.WeighOil, 1000000, 1000000))
	checkPress(t, untrue)
	r := rand.New(rand.NewSource(1))
	checkPress(t, somePress(r, 10, 30))
	for range 300 {
		checkPress(t, somePress(r, r.Intn(11), r.Intn(31)))
	}
}

// TestOfRoll checks P11.7 and P11.14: rolls are read as they were written, likewise.
func TestOfRoll(t *testing.T) {
	if s := checkRoll(t, api.Roll{}); s != "-----" {
		t.Error(s)
	}
	checkRoll(t, api.Roll{Press: api.Press{Pressings: []api.Pressing{}, Weighings: []api.Weighing{}}, Men: []int{}, Shifts: []api.Shift{}, Notes: []api.Note{}})
	if s := checkRoll(t, api.Roll{Men: ints(1, 3)}); s != "--"+".--"+".-."+"..-.."+"-"+"-" {
		t.Error(s)
	}
	checkRoll(t, exampleRoll())
	r := rand.New(rand.NewSource(2))
	great := someRoll(r, somePress(r, 10, 30), 4, 4, 24)
	checkRoll(t, great)
	if n := len(rollNumbers(great)); n != 375 {
		t.Error(n)
	}
	for range 300 {
		checkRoll(t, someRoll(r, somePress(r, r.Intn(11), r.Intn(31)), r.Intn(5), r.Intn(5), r.Intn(25)))
	}
}

// TestShortFiles checks P11.7: of all short signs those are presses, or rolls, that valid ones are written as.
func TestShortFiles(t *testing.T) {
	presses, rolls := 0, 0
	for n := range 16 {
		for _, s := range allSigns(n) {
			p, e := wire.ToPress(s)
			if e == api.OK {
				presses++
				if press.Check(p) != api.OK || fileOf(pressNumbers(p)) != s {
					t.Fatal(s, p)
				}
			} else if e != api.ErrFile || !samePress(p, api.Press{}) {
				t.Fatal(s, p, e)
			}
			r, e := wire.ToRoll(s)
			if e == api.OK {
				rolls++
				if turn.Check(r) != api.OK || fileOf(rollNumbers(r)) != s {
					t.Fatal(s, r)
				}
			} else if e != api.ErrFile || !sameRoll(r, api.Roll{}) {
				t.Fatal(s, r, e)
			}
		}
	}
	if want, men := shortPresses(15), shortRolls(15); presses != want || rolls != men {
		t.Error(presses, want, rolls, men)
	}
}

// shortPresses is how many valid presses have files of at most so many signs: with so few none has two pressings, or a weighing.
func shortPresses(most int) int {
	n := 1
	for id := 1; id < 256; id++ {
		for day := range 256 {
			for at := 1; at <= 6; at++ {
				if len(fileOf(ints(1, id, day, at, 0, 0))) <= most {
					n++
				}
			}
		}
	}
	return n
}

// shortRolls is how many valid rolls have files of at most so many signs: with so few they have men, or one pressing, no more.
func shortRolls(most int) int {
	n := shortPresses(most-3) - 1
	for subset := range 1 << 12 {
		var men []int
		for i := range 12 {
			if subset>>i&1 == 1 {
				men = append(men, i+1)
			}
		}
		if len(men) <= 4 && len(fileOf(rollNumbers(api.Roll{Men: men}))) <= most {
			n++
		}
	}
	for man := 13; man < 512; man++ {
		if len(fileOf(rollNumbers(api.Roll{Men: ints(man)}))) <= most {
			n++
		}
	}
	return n
}

// TestBroken checks P11.7: pieces of files are none, nor are files with something behind them; with one wrong sign they are none, or that of another press, or roll.
func TestBroken(t *testing.T) {
	r := rand.New(rand.NewSource(3))
	for range 8 {
		p := somePress(r, r.Intn(4), r.Intn(4))
		roll := someRoll(r, p, r.Intn(4), r.Intn(3), r.Intn(4))
		s, x := checkPress(t, p), checkRoll(t, roll)
		for i := range s {
			if q, e := wire.ToPress(s[:i]); e != api.ErrFile {
				t.Fatal(s[:i], q, e)
			}
			if q, e := wire.ToPress(flip(s, i)); e == api.OK && fileOf(pressNumbers(q)) != flip(s, i) || e != api.OK && e != api.ErrFile {
				t.Fatal(s, i, q, e)
			}
		}
		for i := range x {
			if q, e := wire.ToRoll(x[:i]); e != api.ErrFile {
				t.Fatal(x[:i], q, e)
			}
			if q, e := wire.ToRoll(flip(x, i)); e == api.OK && fileOf(rollNumbers(q)) != flip(x, i) || e != api.OK && e != api.ErrFile {
				t.Fatal(x, i, q, e)
			}
		}
		for _, more := range []string{"-", ".", "--", ".-.", "---", s, x} {
			if q, e := wire.ToPress(s + more); e != api.ErrFile {
				t.Fatal(s, more, q, e)
			}
			if q, e := wire.ToRoll(x + more); e != api.ErrFile {
				t.Fatal(x, more, q, e)
			}
		}
	}
	if p, e := wire.ToPress(checkRoll(t, exampleRoll())); e != api.ErrFile {
		t.Error(p, e)
	}
	if q, e := wire.ToRoll(checkPress(t, examplePress())); e != api.ErrFile {
		t.Error(q, e)
	}
}

// TestChanged checks P11.7 and R6: files with one number changed are none, or those of valid presses, or rolls, with just these numbers; 1 is for there, 0 for not, and nothing else.
func TestChanged(t *testing.T) {
	p, q := pressNumbers(examplePress()), rollNumbers(exampleRoll())
	for _, by := range []int{-1000, -100, -30, -7, -4, -3, -2, -1, 1, 2, 3, 4, 5, 7, 27, 30, 100, 1000, 10000, 999960, 1000000, 1040000} {
		for i := range q {
			l := slices.Clone(q)
			if l[i] += by; l[i] < 0 || l[i] > api.MaxNumber {
				continue
			}
			r, e := wire.ToRoll(fileOf(l))
			if e == api.OK && (turn.Check(r) != api.OK || !slices.Equal(rollNumbers(r), l)) || e != api.OK && e != api.ErrFile {
				t.Fatal(i, by, r, e)
			}
			if i >= len(p) {
				continue
			}
			x, e := wire.ToPress(fileOf(l[:len(p)]))
			if e == api.OK && (press.Check(x) != api.OK || !slices.Equal(pressNumbers(x), l[:len(p)])) || e != api.OK && e != api.ErrFile {
				t.Fatal(i, by, x, e)
			}
		}
	}
	for i := range 2 {
		for _, flag := range []int{0, 1, 2, 3, 1048575} {
			for _, from := range []int{4, 1} { // so many numbers from the end of a note
				l := slices.Clone(q)
				at := len(l) - 7*i - from
				l[at] = flag
				r, e := wire.ToRoll(fileOf(l))
				if flag > 1 && e != api.ErrFile || flag <= 1 && (e != api.OK || !slices.Equal(rollNumbers(r), l)) {
					t.Error(i, flag, from, r, e)
				}
			}
		}
	}
}

// TestBadFile checks P11.7: what is written as a press, or a roll, that is not valid is the file of none.
func TestBadFile(t *testing.T) {
	for i, change := range []func(p *api.Press){
		func(p *api.Press) { p.Pressings[0].Id = 0 },
		func(p *api.Press) { p.Pressings[0].Id = 2 },
		func(p *api.Press) { p.Pressings[2].Id = 10000 },
		func(p *api.Press) { p.Pressings[2].Day = 3653 },
		func(p *api.Press) { p.Pressings[2].Day = 3 },
		func(p *api.Press) { p.Pressings[0].Press = 0 },
		func(p *api.Press) { p.Pressings[0].Press = 7 },
		func(p *api.Press) { p.Pressings[0].To = 1 },
		func(p *api.Press) { p.Pressings[2].To = 4 },
		func(p *api.Press) { p.Weighings[0].Number = 0 },
		func(p *api.Press) { p.Weighings[0].Number = 12 },
		func(p *api.Press) { p.Weighings[0].Pressing = 4 },
		func(p *api.Press) { p.Weighings[0].Kind = 7 },
		func(p *api.Press) { p.Weighings[1].Ounces.Lo = 41 },
		func(p *api.Press) { p.Weighings[1].Ounces.Hi = 1000001 },
		func(p *api.Press) { p.Pressings = p.Pressings[1:] },
	} {
		r := exampleRoll()
		change(&r.Press)
		if p, e := wire.ToPress(fileOf(pressNumbers(r.Press))); !samePress(p, api.Press{}) || e != api.ErrFile {
			t.Error(i, p, e)
		}
		if x, e := wire.ToRoll(fileOf(rollNumbers(r))); !sameRoll(x, api.Roll{}) || e != api.ErrFile {
			t.Error(i, x, e)
		}
	}
	for i, change := range []func(r *api.Roll){
		func(r *api.Roll) { r.Men[0] = 0 },
		func(r *api.Roll) { r.Men[0] = 3 },
		func(r *api.Roll) { r.Men = ints(1, 2, 30, 31, 32) },
		func(r *api.Roll) { r.Shifts[0].Pressing = 4 },
		func(r *api.Roll) { r.Shifts[0].Pence = 1000001 },
		func(r *api.Roll) { slices.Reverse(r.Shifts) },
		func(r *api.Roll) { r.Notes[1].Number = 1 },
		func(r *api.Roll) { r.Notes[1].One.Man = 3 },
		func(r *api.Roll) { r.Notes[0].Other.Pressing = 2 },
		func(r *api.Roll) { r.Notes = slices.Repeat(r.Notes, 13)[:25] },
	} {
		r := exampleRoll()
		change(&r)
		if x, e := wire.ToRoll(fileOf(rollNumbers(r))); !sameRoll(x, api.Roll{}) || e != api.ErrFile {
			t.Error(i, x, e)
		}
	}
}

// TestTellSame checks P11.14: a press and a roll that were written and read tell the same.
func TestTellSame(t *testing.T) {
	r := rand.New(rand.NewSource(4))
	for range 100 {
		x := someRoll(r, somePress(r, 1+r.Intn(3), r.Intn(6)), 1+r.Intn(3), 1+r.Intn(3), r.Intn(6))
		y, e := wire.ToRoll(checkRoll(t, x))
		if e != api.OK {
			t.Fatal(x, e)
		}
		p, e := wire.ToPress(checkPress(t, x.Press))
		if e != api.OK {
			t.Fatal(x, e)
		}
		n, _ := turn.Count(x)
		if m, _ := turn.Count(y); m != n {
			t.Fatal(x, y, n, m)
		}
		s, e := turn.Whole(x)
		if z, f := turn.Whole(y); s != z || e != f {
			t.Fatal(x, y, s, z)
		}
		for kind := api.WeighSeed; kind < api.WeighParings; kind++ {
			s, e := press.All(x.Press, kind)
			if z, f := press.All(p, kind); s != z || e != f {
				t.Fatal(x, p, s, z)
			}
		}
	}
}
