package press_test

import (
	"math/big"
	"math/rand"
	"slices"

	"oilcake/api"
)

func span(lo, hi int) api.Span { return api.Span{Lo: lo, Hi: hi} }

func part(num, den int) api.Part { return api.Part{Num: num, Den: den} }

func note(number, pressing, kind, lo, hi int) api.Weighing {
	return api.Weighing{Number: number, Pressing: pressing, Kind: kind, Ounces: span(lo, hi)}
}

// lead is a press of pressings 1, 2 and so on, with where the parings of each go, and weighings.
func lead(to []int, l ...api.Weighing) api.Press {
	p := api.Press{Weighings: l}
	for i, x := range to {
		p.Pressings = append(p.Pressings, api.Pressing{Id: i + 1, Day: i / 2, Press: i%6 + 1, To: x})
	}
	return p
}

// example is the press of the chapter's examples.
func example() api.Press {
	return lead([]int{3, 3, 0},
		note(1, 1, 1, 1000, 1000), note(2, 1, 2, 290, 310), note(3, 1, 3, 500, 520), note(4, 1, 4, 40, 50), note(5, 1, 5, 30, 60),
		note(6, 2, 1, 600, 600), note(7, 2, 2, 170, 180), note(8, 2, 3, 300, 310), note(9, 2, 4, 20, 30), note(10, 2, 5, 20, 40),
		note(11, 3, 1, 0, 0), note(12, 3, 2, 30, 40), note(13, 3, 3, 70, 90), note(14, 3, 4, 5, 10), note(15, 3, 5, 0, 10))
}

// with is a press with other ounces in a weighing.
func with(p api.Press, number, lo, hi int) api.Press {
	q := copied(p)
	for i := range q.Weighings {
		if q.Weighings[i].Number == number {
			q.Weighings[i].Ounces = span(lo, hi)
		}
	}
	return q
}

func copied(p api.Press) api.Press {
	return api.Press{Pressings: slices.Clone(p.Pressings), Weighings: slices.Clone(p.Weighings)}
}

// dropped is a press without some weighings.
func dropped(p api.Press, numbers ...int) api.Press {
	q := copied(p)
	q.Weighings = slices.DeleteFunc(q.Weighings, func(x api.Weighing) bool { return slices.Contains(numbers, x.Number) })
	return q
}

func same(p, q api.Press) bool {
	return slices.Equal(p.Pressings, q.Pressings) && slices.Equal(p.Weighings, q.Weighings)
}

// notes is what the notes of a weight leave, of which Lo may be above Hi.
func notes(p api.Press, i, kind int) api.Span {
	s := span(0, api.MaxOunces)
	for _, x := range p.Weighings {
		if x.Pressing == p.Pressings[i].Id && x.Kind == kind {
			s.Lo, s.Hi = max(s.Lo, x.Ounces.Lo), min(s.Hi, x.Ounces.Hi)
		}
	}
	if kind == api.WeighParings && p.Pressings[i].To == 0 {
		s.Hi = min(s.Hi, 0)
	}
	return s
}

// truths are all truths of a press, in order; all its seed, oil, cake, dirt and steam have to be weighed, and that closely.
func truths(p api.Press) [][]api.Weighed {
	var all [][]api.Weighed
	var l []api.Weighed
	var next func(kind int)
	next = func(kind int) {
		i := len(l) - 1
		if kind == api.WeighParings {
			if rest := goesIn(p, l, i) - comesOut(l[i]); rest >= notes(p, i, kind).Lo && rest <= notes(p, i, kind).Hi {
				before := l[i]
				l[i].Ounces[kind] = rest
				if len(l) == len(p.Pressings) {
					all = append(all, slices.Clone(l))
				} else {
					l = append(l, api.Weighed{Pressing: p.Pressings[i+1].Id})
					next(api.WeighSeed)
					l = l[:i+1]
				}
				l[i] = before
			}
			return
		}
		s := notes(p, i, kind)
		for n := s.Lo; n <= s.Hi; n++ {
			before := l[i]
			l[i].Ounces[kind] = n
			next(kind + 1)
			l[i] = before
		}
	}
	if len(p.Pressings) == 0 {
		return [][]api.Weighed{nil}
	}
	l = []api.Weighed{{Pressing: p.Pressings[0].Id}}
	next(api.WeighSeed)
	return all
}

// goesIn is what goes into a pressing, comesOut what comes out of it.
func goesIn(p api.Press, l []api.Weighed, i int) int {
	n := l[i].Ounces[api.WeighSeed]
	for k := range i {
		if p.Pressings[k].To == p.Pressings[i].Id {
			n += l[k].Ounces[api.WeighParings]
		}
	}
	return n
}

func comesOut(x api.Weighed) int {
	n := 0
	for kind := api.WeighOil; kind <= api.WeighParings; kind++ {
		n += x.Ounces[kind]
	}
	return n
}

func all(l []api.Weighed, kind int) int {
	n := 0
	for _, x := range l {
		n += x.Ounces[kind]
	}
	return n
}

// isTruth is what a truth is, by the chapter.
func isTruth(p api.Press, l []api.Weighed) bool {
	if len(l) != len(p.Pressings) {
		return false
	}
	for i, x := range l {
		if x.Pressing != p.Pressings[i].Id || x.Ounces[0] != 0 {
			return false
		}
		for kind := 1; kind <= 6; kind++ {
			if s := notes(p, i, kind); x.Ounces[kind] < s.Lo || x.Ounces[kind] > s.Hi {
				return false
			}
		}
	}
	for i, x := range l {
		if goesIn(p, l, i) != comesOut(x) {
			return false
		}
	}
	return true
}

// ends are the least and the greatest number that something has in all truths.
func ends(all [][]api.Weighed, of func(l []api.Weighed) int) api.Span {
	s := span(of(all[0]), of(all[0]))
	for _, l := range all {
		s.Lo, s.Hi = min(s.Lo, of(l)), max(s.Hi, of(l))
	}
	return s
}

// arc is a weight on its way from a pressing to another one, counted from 0 on; ground is whatever is outside.
type arc struct {
	from, to int
	s        api.Span
}

const ground = -1

// arcs are the weights of a press; that of a pressing and kind is at 6 times the pressing, and the kind less 1.
func arcs(p api.Press) []arc {
	var l []arc
	for i, x := range p.Pressings {
		for kind := 1; kind <= 6; kind++ {
			a := arc{i, ground, notes(p, i, kind)}
			if kind == api.WeighSeed {
				a.from, a.to = ground, i
			}
			if kind == api.WeighParings {
				a.to = slices.IndexFunc(p.Pressings, func(y api.Pressing) bool { return y.Id == x.To })
			}
			l = append(l, a)
		}
	}
	return l
}

// flows tells whether numbers can be chosen for arcs between n pressings with as much going in as out of each, by Hoffman's theorem: no set of pressings has to take more than it can give, or to give more than it can take.
func flows(l []arc, n int) bool {
	for _, a := range l {
		if a.s.Lo > a.s.Hi {
			return false
		}
	}
	for set := range 1 << n {
		in, out := api.Span{}, api.Span{}
		for _, a := range l {
			from, to := a.from != ground && set>>a.from&1 == 1, a.to != ground && set>>a.to&1 == 1
			if to && !from {
				in.Lo, in.Hi = in.Lo+a.s.Lo, in.Hi+a.s.Hi
			}
			if from && !to {
				out.Lo, out.Hi = out.Lo+a.s.Lo, out.Hi+a.s.Hi
			}
		}
		if in.Lo > out.Hi || out.Lo > in.Hi {
			return false
		}
	}
	return true
}

// exact tells whether a span is what an arc can be: both its ends, and nothing beyond them.
func exact(l []arc, n, at int, s api.Span) bool {
	can := func(lo, hi int) bool {
		k := slices.Clone(l)
		k[at].s = span(max(k[at].s.Lo, lo), min(k[at].s.Hi, hi))
		return flows(k, n)
	}
	return can(s.Lo, s.Lo) && can(s.Hi, s.Hi) && !can(-1, s.Lo-1) && !can(s.Hi+1, 1<<40)
}

// throughOne is a press of which all that goes into a pressing comes by one arc, the last one.
func throughOne(p api.Press, i int) ([]arc, int) {
	l, n := arcs(p), len(p.Pressings)
	for k := range l {
		if l[k].to == i {
			l[k].to = n
		}
	}
	return append(l, arc{n, i, span(0, 1<<40)}), n + 1
}

// together is a press of which all of a kind comes by one arc, the last one.
func together(p api.Press, kind int) ([]arc, int) {
	l, n := arcs(p), len(p.Pressings)
	one := arc{n, ground, span(0, 1<<40)}
	if kind == api.WeighSeed {
		one.from, one.to = ground, n
	}
	for i := range n {
		a := &l[6*i+kind-1]
		if kind == api.WeighSeed {
			a.from = n
		} else {
			a.to = n
		}
	}
	return append(l, one), n + 1
}

// shape is pressings whose parings go to any later ones, or nowhere.
func shape(r *rand.Rand, n int) []int {
	to := make([]int, n)
	for i := range n - 1 {
		to[i] = r.Intn(n-1-i) + i + 2
		if r.Intn(4) == 0 {
			to[i] = 0
		}
	}
	return to
}

// small is a press of few and close weights, so that all its truths can be counted; most such presses have some.
func small(r *rand.Rand) api.Press {
	for {
		n := r.Intn(3) + 1
		p := lead(shape(r, n))
		ways := 1
		little := r.Intn(4) == 0 // so that often nothing goes in
		for i := range n {
			for kind := 1; kind <= 6; kind++ {
				if kind == api.WeighParings && r.Intn(3) > 0 {
					continue
				}
				lo, wide := r.Intn(3), r.Intn(3)
				if kind == api.WeighSeed {
					lo += r.Intn(5)
				}
				if little {
					lo, wide = 0, r.Intn(2)
				}
				p.Weighings = append(p.Weighings, note(len(p.Weighings)+1, i+1, kind, lo, lo+wide))
				if kind != api.WeighParings {
					ways *= wide + 1
				}
			}
		}
		for range r.Intn(3) {
			lo := r.Intn(3)
			p.Weighings = append(p.Weighings, note(len(p.Weighings)+1, r.Intn(n)+1, r.Intn(6)+1, lo, lo+r.Intn(4)))
		}
		if ways <= 3000 {
			return p
		}
	}
}

// great is a press of at most n pressings with great weights, of which not all are weighed. With a truth in mind most of what was weighed is near it.
func great(r *rand.Rand, n int) api.Press {
	n = r.Intn(n) + 1
	p := lead(shape(r, n))
	in := make([]int, n)
	number := 0
	for i := range n {
		var w [7]int
		w[api.WeighSeed] = r.Intn(2) * r.Intn(900000)
		in[i] += w[api.WeighSeed]
		left := in[i]
		for _, kind := range r.Perm(5) {
			kind += 2
			if kind == api.WeighParings && p.Pressings[i].To == 0 {
				continue
			}
			w[kind] = r.Intn(min(left, 999999) + 1)
			left -= w[kind]
		}
		for kind := 2; kind <= 5 && left > 0; kind++ {
			more := min(left, 1000000-w[kind])
			w[kind] += more
			left -= more
		}
		if to := p.Pressings[i].To; to != 0 {
			in[to-1] += w[api.WeighParings]
		}
		for kind := 1; kind <= 6 && len(p.Weighings) < 30; kind++ {
			if r.Intn(10) < 6 {
				number += r.Intn(3) + 1
				wide := []int{0, 10, 1000, 200000}[r.Intn(4)]
				lo := w[kind] - r.Intn(wide+1)
				hi := w[kind] + r.Intn(wide+1)
				p.Weighings = append(p.Weighings, note(number, i+1, kind, max(0, min(lo, 1000000)), max(0, min(hi, 1000000))))
			}
		}
	}
	if r.Intn(4) == 0 && len(p.Weighings) > 0 { // one of them is false
		x := &p.Weighings[r.Intn(len(p.Weighings))]
		x.Ounces.Lo = r.Intn(1000001)
		x.Ounces.Hi = x.Ounces.Lo + r.Intn(1000001-x.Ounces.Lo)
	}
	return p
}

// counted calls back with presses of which all truths can be counted, and with these.
func counted(seed int64, count int, f func(r *rand.Rand, p api.Press, all [][]api.Weighed)) {
	r := rand.New(rand.NewSource(seed))
	f(r, api.Press{}, truths(api.Press{}))
	for range count {
		p := small(r)
		f(r, p, truths(p))
	}
}

// presses calls back with presses of at most n pressings with great weights, the chapter's example and changes of it first.
func presses(seed int64, count, n int, f func(r *rand.Rand, p api.Press)) {
	r := rand.New(rand.NewSource(seed))
	for _, p := range []api.Press{{}, example(), with(example(), 13, 10, 20), with(example(), 12, 30, 400), lead([]int{2, 0}), lead([]int{3, 4, 5, 5, 0})} {
		f(r, p)
	}
	for range count {
		f(r, great(r, n))
	}
}

func rat(p api.Part) *big.Rat { return big.NewRat(int64(p.Num), int64(p.Den)) }

func kinds() []int { return []int{1, 2, 3, 4, 5, 6} }
