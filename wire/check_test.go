package wire_test

import (
	"fmt"
	"math"
	"math/rand"
	"reflect"
	"slices"
	"strings"
	"testing"

	"oilcake/api"
	"oilcake/wire"
)

// args are the arguments of all functions; file, pressFile and rollFile are files of numbers, of a press and of a roll.
type args struct {
	c                         api.Code
	orders, often, l          []int
	s                         string
	file, pressFile, rollFile string
	p                         api.Press
	r                         api.Roll
}

// fine are arguments with which no function returns an error.
func fine() args {
	return args{
		c: codeB(), orders: ints(1, 3, 2), often: ints(5, 0, 2), l: ints(0, 1048575, 3), s: ".-..",
		file: fileOf(ints(0, 1048575, 3)), pressFile: fileOf(pressNumbers(examplePress())), rollFile: fileOf(rollNumbers(exampleRoll())),
		p: examplePress(), r: exampleRoll(),
	}
}

// fault is an error, and all that is done to arguments to lead to it.
type fault struct {
	e  api.Errno
	by []func(a *args)
}

// far are numbers that nothing allows.
func far() []int {
	return []int{-1, -2, math.MinInt, math.MinInt + 1, math.MaxInt, math.MaxInt - 1, math.MinInt32, math.MaxInt32, math.MaxUint32 + 1, math.MaxUint32 + 2, math.MinInt / 2, math.MaxInt/2 + 1}
}

// each are changes of arguments by numbers that nothing allows, and by some more.
func each(set func(a *args, n int), more ...int) []func(a *args) {
	var by []func(a *args)
	for _, n := range append(far(), more...) {
		by = append(by, func(a *args) { set(a, n) })
	}
	return by
}

// texts are changes of arguments by strings.
func texts(set func(a *args, s string), l ...string) []func(a *args) {
	var by []func(a *args)
	for _, s := range l {
		by = append(by, func(a *args) { set(a, s) })
	}
	return by
}

// noSigns are strings that are not signs, or not only.
func noSigns() []string {
	return []string{"x", "-x", "x.", ".x.", " ", ". ", " -", "0", "_", "—", "–", "…", "·", "-\n", "\x00", "\xff", ".\xff", "\xe2\x80", "-,.", "+-"}
}

func badCode() fault {
	long := strings.Repeat("-", 100000)
	return fault{api.ErrCode, slices.Concat(
		texts(func(a *args, s string) { a.c.Words[0] = s }, append(noSigns(), "", ".-", "-.", "-------", ".......", long)...),
		texts(func(a *args, s string) { a.c.Words[2] = s }, append(noSigns(), "", ".", ".-", "-------", ".......", long)...),
		texts(func(a *args, s string) { a.c = code(s) }, append(noSigns(), "", "-------", long)...),
		[]func(a *args){
			func(a *args) { a.c = api.Code{} },
			func(a *args) { a.c.Words = []string{} },
			func(a *args) { a.c = code("-", ".", "--", "-.", ".-", "..", "---", "...") },
			func(a *args) { a.c = code("-", ".", "--", "-.", ".-", "..", "-") },
			func(a *args) { a.c.Words = make([]string, 3) },
			func(a *args) { a.c.Words = make([]string, 100000) },
			func(a *args) { a.c.Words = slices.Repeat(words("-"), 100000) },
		},
	)}
}

func badOrders() fault {
	return fault{api.ErrOrders, slices.Concat(
		each(func(a *args, n int) { a.orders[0] = n }, 0, 4, 5, 8),
		each(func(a *args, n int) { a.orders[2] = n }, 0, 4, 5, 8),
		each(func(a *args, n int) { a.orders = ints(n) }, 0, 4),
		each(func(a *args, n int) { a.orders = append(slices.Repeat(ints(1), 249), n) }, 0, 2, 3, 4),
		[]func(a *args){
			func(a *args) { a.orders = slices.Repeat(ints(1), 251) },
			func(a *args) { a.orders = slices.Repeat(ints(2), 126) },
			func(a *args) { a.orders = slices.Repeat(ints(3), 100000) },
			func(a *args) { a.orders = make([]int, 100000) },
		},
	)}
}

func badSigns() fault {
	return fault{api.ErrSigns, texts(func(a *args, s string) { a.s = s }, append(noSigns(), strings.Repeat(".", 251), strings.Repeat("-", 251), strings.Repeat(".-", 100000), strings.Repeat(".", 250)+"x", strings.Repeat(".", 249)+"x", "x"+strings.Repeat("-", 249))...)}
}

// manyReadings are signs with too many readings.
func manyReadings() fault {
	return fault{api.ErrMany, []func(a *args){
		func(a *args) { a.c, a.s = code("-", "--"), strings.Repeat("-", 30) },
		func(a *args) { a.c, a.s = code("-", "--"), strings.Repeat("-", 250) },
		func(a *args) { a.s = strings.Repeat(".-.", 83) },
	}}
}

// noReading are signs that cannot be read.
func noReading() fault {
	return fault{api.ErrNone, slices.Concat(
		texts(func(a *args, s string) { a.s = s }, "-", "--", ".--", "---", ".-.-.---", strings.Repeat(".", 248)+"--", "--"+strings.Repeat(".", 248)),
		[]func(a *args){func(a *args) { a.c = code("-") }},
	)}
}

// noDouble are codes that can be read in one way only.
func noDouble() fault {
	return fault{api.ErrNone, []func(a *args){
		func(a *args) { a.c = codeA() },
		func(a *args) { a.c = code("-") },
		func(a *args) { a.c = code("-", "-.", "..") },
		func(a *args) { a.c.Words = a.c.Words[:2] },
	}}
}

// noSlip are codes of which no wrong sign makes a message another one.
func noSlip() fault {
	return fault{api.ErrNone, []func(a *args){
		func(a *args) { a.c = code("-") },
		func(a *args) { a.c = code("-", "--", "---") },
		func(a *args) { a.c = code("-", "..") },
	}}
}

// noMend are signs of which nothing that can be read differs in one sign.
func noMend() fault {
	return fault{api.ErrNone, slices.Concat(
		texts(func(a *args, s string) { a.s = s }, "", "---", ".----", "----", strings.Repeat("-", 250)),
		[]func(a *args){func(a *args) { a.c = code("--.--") }},
	)}
}

func badOften() fault {
	return fault{api.ErrOften, slices.Concat(
		each(func(a *args, n int) { a.often[0] = n }, 1001),
		each(func(a *args, n int) { a.often[2] = n }, 1001),
		each(func(a *args, n int) { a.often = ints(n) }, 1001),
		[]func(a *args){
			func(a *args) { a.often = nil },
			func(a *args) { a.often = []int{} },
			func(a *args) { a.often = make([]int, 8) },
			func(a *args) { a.often = make([]int, 100000) },
		},
	)}
}

// otherOften is how often other orders are sent than those of the code.
func otherOften() fault {
	return fault{api.ErrOften, append([]func(a *args){
		func(a *args) { a.often = ints(5, 2) },
		func(a *args) { a.often = ints(5, 2, 2, 2) },
		func(a *args) { a.often = make([]int, 7) },
		func(a *args) { a.c = code("-") },
	}, badOften().by...)}
}

func badNumbers() fault {
	return fault{api.ErrFile, slices.Concat(
		each(func(a *args, n int) { a.l[0] = n }, 1048576),
		each(func(a *args, n int) { a.l[2] = n }, 1048576),
		each(func(a *args, n int) { a.l = ints(n) }, 1048576),
		[]func(a *args){
			func(a *args) { a.l = make([]int, 401) },
			func(a *args) { a.l = make([]int, 100000) },
		},
	)}
}

func badFile(set func(a *args, s string), more ...string) fault {
	return fault{api.ErrFile, texts(set, slices.Concat(noSigns(), words(".", "..", "-.", "..-", strings.Repeat("-", 401), strings.Repeat("-", 100000), strings.Repeat(".", 100000)), more)...)}
}

func badPress() fault {
	return fault{api.ErrPress, slices.Concat(
		each(func(a *args, n int) { a.p.Pressings[0].Id = n }, 0, 2, 10000),
		each(func(a *args, n int) { a.p.Pressings[1].Day = n }, 5, 3653),
		each(func(a *args, n int) { a.p.Pressings[1].Press = n }, 0, 7),
		each(func(a *args, n int) { a.p.Pressings[2].To = n }, 1, 3, 4),
		each(func(a *args, n int) { a.p.Weighings[0].Number = n }, 0, 12, 10000),
		each(func(a *args, n int) { a.p.Weighings[0].Pressing = n }, 0, 4),
		each(func(a *args, n int) { a.p.Weighings[1].Kind = n }, 0, 7),
		each(func(a *args, n int) { a.p.Weighings[1].Ounces.Lo = n }, 41),
		each(func(a *args, n int) { a.p.Weighings[1].Ounces.Hi = n }, 29, 1000001),
		[]func(a *args){
			func(a *args) { a.p.Pressings = nil }, // the weighings are of none then
			func(a *args) { a.p.Pressings = make([]api.Pressing, 100000) },
			func(a *args) { a.p.Weighings = slices.Repeat(a.p.Weighings, 16) },
			func(a *args) { slices.Reverse(a.p.Pressings) },
		},
	)}
}

// badRollPress are the faults of the press of a roll.
func badRollPress() fault {
	f := badPress()
	for i, by := range f.by {
		f.by[i] = func(a *args) {
			x := args{p: a.r.Press}
			by(&x)
			a.r.Press = x.p
		}
	}
	return f
}

func badRoll() fault {
	return fault{api.ErrRoll, slices.Concat(
		each(func(a *args, n int) { a.r.Men[0] = n }, 0, 2, 3, 10000),
		each(func(a *args, n int) { a.r.Shifts[0].Pressing = n }, 0, 3, 4),
		each(func(a *args, n int) { a.r.Shifts[1].Pence = n }, 1000001),
		each(func(a *args, n int) { a.r.Notes[0].Number = n }, 0, 7, 10000),
		each(func(a *args, n int) { a.r.Notes[1].One.Man = n }, 0, 3),
		each(func(a *args, n int) { a.r.Notes[1].Other.Pressing = n }, 0, 2),
		[]func(a *args){
			func(a *args) { a.r.Men = nil }, // the notes are of none then
			func(a *args) { a.r.Shifts = nil },
			func(a *args) { a.r.Men = make([]int, 100000) },
			func(a *args) { a.r.Notes = slices.Repeat(a.r.Notes, 13) },
		},
	)}
}

// call is a function with the faults that it names, in their order.
type call struct {
	name   string
	run    func(a args) ([]any, api.Errno)
	faults []fault
}

func one[T any](x T, e api.Errno) ([]any, api.Errno) { return []any{x}, e }

func two[T, N any](x T, y N, e api.Errno) ([]any, api.Errno) { return []any{x, y}, e }

func codeCalls() []call {
	return []call{
		{"Check", func(a args) ([]any, api.Errno) { return nil, wire.Check(a.c) }, nil},
		{"Prefix", func(a args) ([]any, api.Errno) { return one(wire.Prefix(a.c)) }, nil},
		{"Share", func(a args) ([]any, api.Errno) { return one(wire.Share(a.c)) }, nil},
		{"Send", func(a args) ([]any, api.Errno) { return one(wire.Send(a.c, a.orders)) }, []fault{badOrders()}},
		{"Count", func(a args) ([]any, api.Errno) { return one(wire.Count(a.c, a.s)) }, []fault{badSigns(), manyReadings()}},
		{"Read", func(a args) ([]any, api.Errno) { return one(wire.Read(a.c, a.s)) }, []fault{badSigns(), noReading()}},
		{"Unique", func(a args) ([]any, api.Errno) { return one(wire.Unique(a.c)) }, nil},
		{"Double", func(a args) ([]any, api.Errno) { return one(wire.Double(a.c)) }, []fault{noDouble()}},
		{"Cost", func(a args) ([]any, api.Errno) { return one(wire.Cost(a.c, a.often)) }, []fault{otherOften()}},
		{"Mend", func(a args) ([]any, api.Errno) { return one(wire.Mend(a.c, a.s)) }, []fault{badSigns(), noMend()}},
		{"Slip", func(a args) ([]any, api.Errno) { return two(wire.Slip(a.c)) }, []fault{noSlip()}},
	}
}

func calls() []call {
	list := []call{
		{"Best", func(a args) ([]any, api.Errno) { return one(wire.Best(a.often)) }, []fault{badOften()}},
		{"Write", func(a args) ([]any, api.Errno) { return one(wire.Write(a.l)) }, []fault{badNumbers()}},
		{"Numbers", func(a args) ([]any, api.Errno) { return one(wire.Numbers(a.file)) }, []fault{badFile(func(a *args, s string) { a.file = s })}},
		{"OfPress", func(a args) ([]any, api.Errno) { return one(wire.OfPress(a.p)) }, []fault{badPress()}},
		{"ToPress", func(a args) ([]any, api.Errno) { return one(wire.ToPress(a.pressFile)) }, []fault{badFile(func(a *args, s string) { a.pressFile = s }, "", "-", "---", ".-.-", ".-.-----", "-.-.-----")}},
		{"OfRoll", func(a args) ([]any, api.Errno) { return one(wire.OfRoll(a.r)) }, []fault{badRollPress(), badRoll()}},
		{"ToRoll", func(a args) ([]any, api.Errno) { return one(wire.ToRoll(a.rollFile)) }, []fault{badFile(func(a *args, s string) { a.rollFile = s }, "", "-", "--", "---", "----", "------", "--.-.---", "---.-.---", "----.-.-------")}},
	}
	for _, f := range codeCalls() {
		f.faults = append([]fault{badCode()}, f.faults...)
		list = append(list, f)
	}
	return list
}

func zero(l []any) bool {
	for _, x := range l {
		v := reflect.ValueOf(x)
		if !v.IsZero() && !(v.Kind() == reflect.Slice && v.Len() == 0) {
			return false
		}
	}
	return true
}

// spoil does something to arguments that leads to a fault. What was spoilt before can have nothing left to spoil.
func spoil(a *args, f fault, k int) {
	switch f.e {
	case api.ErrCode:
		a.c = fine().c
	case api.ErrPress:
		a.r.Press = fine().r.Press
	}
	f.by[k%len(f.by)](a)
}

// spoilt are arguments with a fault of a call, and with some of those behind it. These come first: what is checked first counts.
func spoilt(f call, i, k, more int) args {
	a := fine()
	for j := len(f.faults) - 1; j > i; j-- {
		if more>>(j-i-1)&1 == 1 {
			spoil(&a, f.faults[j], k)
		}
	}
	spoil(&a, f.faults[i], k)
	return a
}

// TestErrors checks P11.1 and P1 (R1, R2, R5, R6, R7), and the errors of P11.2 to P11.7: each fault leads to its error, whatever other faults come behind it, and all results are zero values then.
func TestErrors(t *testing.T) {
	for _, f := range calls() {
		if _, e := f.run(fine()); e != api.OK {
			t.Errorf("%s: %d without a fault", f.name, e)
		}
		for i, x := range f.faults {
			for k := range x.by {
				for more := range 1 << (len(f.faults) - i - 1) {
					a := spoilt(f, i, k, more)
					if l, e := f.run(a); e != x.e || !zero(l) {
						t.Errorf("%s, fault %d.%d (%b): %d, want %d, results %v", f.name, i, k, more, e, x.e, l)
					}
				}
			}
		}
	}
}

// TestAnything checks P1 (R2, R6, R7): whatever strings and numbers there are, each call ends, with zero values if there is an error.
func TestAnything(t *testing.T) {
	r := rand.New(rand.NewSource(1))
	text := func(most int) string {
		s := ""
		for range r.Intn(most) {
			s += []string{"-", "-", "-", ".", ".", ".", ".-.", "x", "\xff", "—"}[min(r.Intn(40), r.Intn(10))]
		}
		return s
	}
	number := func() int { return []int{r.Intn(10), r.Intn(10), r.Int(), -r.Int(), r.Intn(2000000)}[r.Intn(5)] }
	all := calls()
	for range 3000 {
		a := fine()
		for i := range a.c.Words {
			a.c.Words[i] = text(7)
		}
		a.s, a.file, a.pressFile, a.rollFile = text(40), text(40), text(40), text(40)
		for _, l := range [][]int{a.orders, a.often, a.l} {
			l[r.Intn(len(l))] = number()
		}
		for _, f := range all {
			if l, e := f.run(a); e != api.OK && !zero(l) {
				t.Fatal(f.name, a, l, e)
			}
		}
	}
}

// roomy is a list with room behind its end, in which something else lies.
func roomy[T any](l []T, other T) []T {
	k := append(slices.Clone(l), other, other)
	return k[:len(l)]
}

func full[T any](l []T) []T { return l[:cap(l)] }

func pressLists(p api.Press) []any { return []any{full(p.Pressings), full(p.Weighings)} }

func rollLists(r api.Roll) []any {
	return append([]any{full(r.Men), full(r.Shifts), full(r.Notes)}, pressLists(r.Press)...)
}

// argLists are the arguments' lists, with what is behind their ends.
func argLists(a args) []any {
	l := []any{full(a.c.Words), full(a.orders), full(a.often), full(a.l)}
	return slices.Concat(l, pressLists(a.p), rollLists(a.r))
}

func roomyPress(p api.Press) api.Press {
	p.Pressings, p.Weighings = roomy(p.Pressings, api.Pressing{Id: 77}), roomy(p.Weighings, weighing(77, 7, 7, 7, 7))
	return p
}

func roomyArgs() args {
	a := fine()
	a.c.Words, a.orders, a.often, a.l = roomy(a.c.Words, "---"), roomy(a.orders, 77), roomy(a.often, 77), roomy(a.l, 77)
	a.p, a.r.Press = roomyPress(a.p), roomyPress(a.r.Press)
	a.r.Men, a.r.Shifts = roomy(a.r.Men, 77), roomy(a.r.Shifts, api.Shift{Pressing: 77})
	a.r.Notes = roomy(a.r.Notes, api.Note{Number: 77})
	return a
}

// wipe clears all lists that some things have.
func wipe(l []any) {
	for _, x := range l {
		switch y := x.(type) {
		case []int:
			clear(y)
		case []string:
			clear(y)
		case []api.Pressing:
			clear(y)
		case []api.Weighing:
			clear(y)
		case []api.Shift:
			clear(y)
		case []api.Note:
			clear(y)
		case api.Code:
			clear(full(y.Words))
		case api.Press:
			wipe(pressLists(y))
		case api.Roll:
			wipe(rollLists(y))
		}
	}
}

// TestMemory checks P1 (R3): arguments are left as they are, also behind their ends, calls do not depend on those before, and results are new memory.
func TestMemory(t *testing.T) {
	for _, f := range calls() {
		a := roomyArgs()
		kept := fmt.Sprint(argLists(a))
		before, _ := f.run(a)
		text := fmt.Sprint(before)
		again, _ := f.run(a)
		if !reflect.DeepEqual(before, again) {
			t.Error(f.name, before, again)
		}
		if fmt.Sprint(argLists(a)) != kept {
			t.Error(f.name, "writes to its arguments")
		}
		wipe(argLists(a))
		wipe(again)
		if fmt.Sprint(before) != text {
			t.Error(f.name, "shares memory")
		}
	}
}

// TestEmpty checks P1 (R4), P11.2 and P11.6: nil is as good as empty, and no orders are the only reading of no signs.
func TestEmpty(t *testing.T) {
	for _, l := range [][]int{nil, {}} {
		if s, e := wire.Send(codeA(), l); s != "" || e != api.OK {
			t.Error(s, e)
		}
		if s, e := wire.Write(l); s != "" || e != api.OK {
			t.Error(s, e)
		}
	}
	for _, c := range []api.Code{codeA(), codeB(), code("-"), code("------")} {
		if n, e := wire.Count(c, ""); n != 1 || e != api.OK {
			t.Error(c, n, e)
		}
		if l, e := wire.Read(c, ""); len(l) > 0 || e != api.OK {
			t.Error(c, l, e)
		}
		if l, e := wire.Mend(c, ""); len(l) > 0 || e != api.ErrNone {
			t.Error(c, l, e)
		}
	}
	if l, e := wire.Numbers(""); len(l) > 0 || e != api.OK {
		t.Error(l, e)
	}
	if p, e := wire.ToPress("--"); !samePress(p, api.Press{}) || e != api.OK {
		t.Error(p, e)
	}
	if r, e := wire.ToRoll("-----"); !sameRoll(r, api.Roll{}) || e != api.OK {
		t.Error(r, e)
	}
}
