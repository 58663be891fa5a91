package foreman

import (
	"slices"
	"strconv"
	"strings"

	"oilcake/api"
)

// mostNumbers is how many numbers an order can have.
const mostNumbers = 16

// form is what the lines of a verb are like: its word, how many numbers it has, and whether these are pairs; and whether it only asks.
type form struct {
	verb        int
	word        string
	many        api.Span
	pairs, asks bool
}

func just(n int) api.Span { return api.Span{Lo: n, Hi: n} }

// forms returns the forms of all verbs.
func forms() [api.VerbRead]form {
	return [...]form{
		{verb: api.VerbDraw, word: "draw", many: just(2)},
		{verb: api.VerbWeigh, word: "weigh", many: just(5)},
		{verb: api.VerbAll, word: "all", many: just(1), asks: true},
		{verb: api.VerbFlow, word: "flow", many: just(4)},
		{verb: api.VerbPour, word: "pour", many: api.Span{Lo: 2, Hi: mostNumbers}, pairs: true},
		{verb: api.VerbMeasure, word: "measure", many: just(1), asks: true},
		{verb: api.VerbSell, word: "sell", many: just(4)},
		{verb: api.VerbPress, word: "press", asks: true},
		{verb: api.VerbDone, word: "done", many: just(2)},
		{verb: api.VerbWater, word: "water", many: api.Span{Lo: 2, Hi: api.MaxPlanned + 1}},
		{verb: api.VerbProbe, word: "probe", many: just(4)},
		{verb: api.VerbHold, word: "hold", many: just(1), asks: true},
		{verb: api.VerbTest, word: "test", many: just(4)},
		{verb: api.VerbPut, word: "put", many: just(3)},
		{verb: api.VerbGive, word: "give", many: just(3)},
		{verb: api.VerbWarn, word: "warn", many: just(1), asks: true},
		{verb: api.VerbTurn, word: "turn", many: api.Span{Hi: api.MaxHands}},
		{verb: api.VerbToday, word: "today", asks: true},
		{verb: api.VerbNote, word: "note", many: just(7)},
		{verb: api.VerbPay, word: "pay", many: just(1), asks: true},
		{verb: api.VerbWire, word: "wire", asks: true},
		{verb: api.VerbRead, word: "read"},
	}
}

// formOf returns the first form that is as it is asked for, otherwise one of no verb.
func formOf(is func(f form) bool) form {
	all := forms()
	return first(slices.Values(all[:]), is)
}

// takes reports whether orders of a form can have so many numbers.
func (f form) takes(n int) bool { return within(f.many, n) && !(f.pairs && n%2 > 0) }

// order is an order that has its numbers in an array, so that two of them can be compared.
type order struct {
	verb    int
	numbers [mostNumbers]int
	many    int
	signs   string
}

func (o order) form() form { return formOf(func(f form) bool { return f.verb == o.verb }) }

// list returns the numbers of an order.
func (o order) list() []int { return slices.Clone(o.numbers[:o.many]) }

// line returns the line of an order.
func (o order) line() string {
	line := o.form().word
	for _, n := range o.list() {
		line += space + strconv.Itoa(n)
	}
	if o.signs != "" {
		line += space + o.signs
	}
	return line
}

// checked returns an order, with the error of one that is not valid: it is just if it is what is read from its line.
func checked(o api.Order) (order, api.Errno) {
	if len(o.Numbers) > mostNumbers {
		return order{}, api.ErrLine
	}
	x := order{verb: o.Verb, many: len(o.Numbers), signs: o.Signs}
	copy(x.numbers[:], o.Numbers)
	if y, is := read(x.line()); !is || y != x {
		return order{}, api.ErrLine
	}
	return x, api.OK
}

// read returns the order of a line, and whether there is one.
func read(line string) (order, bool) {
	if len(line) > api.MaxLine || len(strange(line)) > 0 {
		return order{}, false
	}
	f := formOf(func(f form) bool { return f.word == wordOf(line) })
	o := order{verb: f.verb}
	if o.verb == api.VerbRead {
		_, o.signs, _ = strings.Cut(line, space)
		return o, signed(o.signs)
	}
	words := strings.Split(line, space)[1:]
reading:
	for _, word := range words {
		switch n, is := figure(word); {
		case !is, o.many == mostNumbers:
			break reading
		default:
			o.numbers[o.many] = n
			o.many++
		}
	}
	return o, o.many == len(words) && f.takes(o.many)
}

// figure returns the number of a word, and whether it is one that an order can have, as it is said.
func figure(word string) (int, bool) {
	n, e := strconv.Atoi(word)
	return n, e == nil && within(api.Span{Hi: api.MaxFigure}, n) && strconv.Itoa(n) == word
}

// signed reports whether a word is signs, at least one, and nothing else.
func signed(word string) bool { return word != "" && strings.Trim(word, "-.") == "" }
