package wire_test

import (
	"math/big"
	"math/rand"
	"slices"
	"strings"

	"oilcake/api"
)

func ints(l ...int) []int { return l }

func words(l ...string) []string { return l }

func part(num, den int) api.Part { return api.Part{Num: num, Den: den} }

func span(lo, hi int) api.Span { return api.Span{Lo: lo, Hi: hi} }

func code(l ...string) api.Code { return api.Code{Words: l} }

// codeA and codeB are those of the chapter's examples.
func codeA() api.Code { return code(".", "-.", "--") }

func codeB() api.Code { return code(".", ".-", "-.") }

// allSigns are all signs of a length, in order.
func allSigns(n int) []string {
	l := []string{""}
	for range n {
		var longer []string
		for _, s := range l {
			longer = append(longer, s+"-", s+".")
		}
		l = longer
	}
	return l
}

// messages are all messages of at most so many signs, each with all its readings, in order: all lists of orders are gone through.
func messages(c api.Code, most int) map[string][][]int {
	all := map[string][][]int{}
	var add func(orders []int, s string)
	add = func(orders []int, s string) {
		all[s] = append(all[s], slices.Clone(orders))
		for i, w := range c.Words {
			if len(s)+len(w) <= most {
				add(append(orders, i+1), s+w)
			}
		}
	}
	add(nil, "")
	return all
}

// flip is signs of which one was wrong.
func flip(s string, i int) string {
	if s[i] == '-' {
		return s[:i] + "." + s[i+1:]
	}
	return s[:i] + "-" + s[i+1:]
}

// differ is in how many signs two messages of one length differ.
func differ(s, t string) int {
	n := 0
	for i := range s {
		if s[i] != t[i] {
			n++
		}
	}
	return n
}

// someWord is a random word.
func someWord(r *rand.Rand, signs int) string {
	w := ""
	for range signs {
		w += string("-."[r.Intn(2)])
	}
	return w
}

// someCode is a random code, of words from the least to the most signs.
func someCode(r *rand.Rand, n, least, most int) api.Code {
	var c api.Code
	for len(c.Words) < n {
		if w := someWord(r, least+r.Intn(most-least+1)); !slices.Contains(c.Words, w) {
			c.Words = append(c.Words, w)
		}
	}
	return c
}

// prefixFree reports whether no word begins with another one.
func prefixFree(l []string) bool {
	for i, w := range l {
		for j, x := range l {
			if i != j && strings.HasPrefix(w, x) {
				return false
			}
		}
	}
	return true
}

// shareOf is the share of a code, added up.
func shareOf(c api.Code) *big.Rat {
	sum := new(big.Rat)
	for _, w := range c.Words {
		sum.Add(sum, big.NewRat(1, 1<<len(w)))
	}
	return sum
}

// costOf is the cost of words.
func costOf(l []string, often []int) int {
	sum := 0
	for i, w := range l {
		sum += len(w) * often[i]
	}
	return sum
}

// places are how many readings, counted to two, of some signs have come to an end in each word, by what is left of it; as text, in order.
type places map[string]int

func (p places) text() string {
	var l []string
	for left, n := range p {
		l = append(l, left+strings.Repeat("!", n))
	}
	slices.Sort(l)
	return strings.Join(l, " ")
}

// after are the places one sign on: behind a word any word can come.
func (p places) after(c api.Code, sign byte) places {
	q := places{}
	for left, n := range p {
		next := []string{left}
		if left == "" {
			next = c.Words
		}
		for _, w := range next {
			if w[0] == sign {
				q[w[1:]] = min(2, q[w[1:]]+n)
			}
		}
	}
	return q
}

// doubled are the first of the shortest signs with two readings, or "": all signs are gone through, shorter ones first, but for those that lead to the same places as others before them.
func doubled(c api.Code) string {
	type walk struct {
		at places
		s  string
	}
	seen := map[string]bool{}
	ahead := []walk{{places{"": 1}, ""}}
	for len(ahead) > 0 {
		x := ahead[0]
		ahead = ahead[1:]
		if x.at[""] > 1 {
			return x.s
		}
		for _, sign := range []byte("-.") {
			at := x.at.after(c, sign)
			if text := at.text(); len(at) > 0 && !seen[text] {
				seen[text] = true
				ahead = append(ahead, walk{at, x.s + string(sign)})
			}
		}
	}
	return ""
}

// once are places of which each one counts once.
func (p places) once() places {
	for left := range p {
		p[left] = 1
	}
	return p
}

// slipped are the first of the shortest messages that differ in one sign, or "": all pairs of signs that differ in no more are gone through, shorter ones first, in order, but for those that lead to the same places as others before them.
func slipped(c api.Code) (string, string) {
	type walk struct {
		sent, got places
		s, t      string
	}
	seen := map[string]bool{}
	level := []walk{{places{"": 1}, places{"": 1}, "", ""}}
	for len(level) > 0 {
		var next []walk
		for _, x := range level {
			for _, two := range []string{"--", "-.", ".-", ".."} {
				next = append(next, walk{x.sent.after(c, two[0]).once(), x.got.after(c, two[1]).once(), x.s + two[:1], x.t + two[1:]})
			}
		}
		slices.SortFunc(next, func(x, y walk) int { return strings.Compare(x.s+x.t, y.s+y.t) })
		level = nil
		for _, x := range next {
			wrong := differ(x.s, x.t)
			if wrong == 1 && x.sent[""] > 0 && x.got[""] > 0 {
				return x.s, x.t
			}
			text := x.sent.text() + "/" + x.got.text() + strings.Repeat("/", wrong)
			if wrong < 2 && len(x.sent) > 0 && len(x.got) > 0 && !seen[text] {
				seen[text] = true
				level = append(level, x)
			}
		}
	}
	return "", ""
}

func weighing(number, pressing, kind, lo, hi int) api.Weighing {
	return api.Weighing{Number: number, Pressing: pressing, Kind: kind, Ounces: span(lo, hi)}
}

// examplePress is the press of layer 2's examples, with two of its weighings.
func examplePress() api.Press {
	return api.Press{
		Pressings: []api.Pressing{{Id: 1, Press: 1, To: 3}, {Id: 2, Day: 4, Press: 2, To: 3}, {Id: 3, Day: 4, Press: 6}},
		Weighings: []api.Weighing{weighing(1, 1, api.WeighSeed, 1000, 1000), weighing(12, 3, api.WeighOil, 30, 40)},
	}
}

func thing(man, pressing int, there bool) api.Thing {
	return api.Thing{Man: man, Pressing: pressing, There: there}
}

// exampleRoll is a roll with something of all that rolls have.
func exampleRoll() api.Roll {
	return api.Roll{
		Press:  examplePress(),
		Men:    ints(1, 2, 30),
		Shifts: []api.Shift{{Pressing: 1, Pence: 100}, {Pressing: 3, Pence: 50}},
		Notes: []api.Note{
			{Number: 1, One: thing(1, 1, true), Other: thing(2, 1, true)},
			{Number: 7, One: thing(2, 1, false), Other: thing(30, 3, true)},
		},
	}
}

// someIds are random numbers from 1 to some number, in increasing order.
func someIds(r *rand.Rand, n, most int) []int {
	seen := map[int]bool{}
	for len(seen) < n {
		seen[1+r.Intn(most)] = true
	}
	var l []int
	for id := range seen {
		l = append(l, id)
	}
	slices.Sort(l)
	return l
}

// somePress is a random press of so many pressings and weighings; of one without pressings there are no weighings.
func somePress(r *rand.Rand, pressings, weighings int) api.Press {
	var p api.Press
	ids := someIds(r, pressings, api.MaxId)
	day := r.Intn(3000)
	for i, id := range ids {
		day += r.Intn(60)
		x := api.Pressing{Id: id, Day: day, Press: 1 + r.Intn(6)}
		if i+1 < len(ids) && r.Intn(2) == 0 {
			x.To = ids[i+1+r.Intn(len(ids)-i-1)]
		}
		p.Pressings = append(p.Pressings, x)
	}
	if pressings == 0 {
		return p
	}
	for _, number := range someIds(r, weighings, api.MaxId) {
		lo := r.Intn(api.MaxOunces + 1)
		p.Weighings = append(p.Weighings, weighing(number, ids[r.Intn(len(ids))], 1+r.Intn(6), lo, lo+r.Intn(api.MaxOunces-lo+1)))
	}
	return p
}

// someRoll is a random roll with a press, with so many men, shifts and notes; there are no notes without men or shifts, and no more shifts than pressings.
func someRoll(r *rand.Rand, p api.Press, men, shifts, notes int) api.Roll {
	x := api.Roll{Press: p, Men: someIds(r, men, api.MaxId)}
	for i := range min(shifts, len(p.Pressings)) {
		x.Shifts = append(x.Shifts, api.Shift{Pressing: p.Pressings[i].Id, Pence: r.Intn(api.MaxPence + 1)})
	}
	if men == 0 || len(x.Shifts) == 0 {
		return x
	}
	some := func() api.Thing {
		return thing(x.Men[r.Intn(men)], x.Shifts[r.Intn(len(x.Shifts))].Pressing, r.Intn(2) == 0)
	}
	for _, number := range someIds(r, notes, api.MaxId) {
		x.Notes = append(x.Notes, api.Note{Number: number, One: some(), Other: some()})
	}
	return x
}

func samePress(p, q api.Press) bool {
	return slices.Equal(p.Pressings, q.Pressings) && slices.Equal(p.Weighings, q.Weighings)
}

func sameRoll(x, y api.Roll) bool {
	return samePress(x.Press, y.Press) && slices.Equal(x.Men, y.Men) && slices.Equal(x.Shifts, y.Shifts) && slices.Equal(x.Notes, y.Notes)
}
