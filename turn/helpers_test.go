package turn_test

import (
	"cmp"
	"math/rand"
	"slices"
	"testing"

	"oilcake/api"
	"oilcake/turn"
)

func ints(l ...int) []int { return l }

func span(lo, hi int) api.Span { return api.Span{Lo: lo, Hi: hi} }

// was is that a man was there, not that he was not.
func was(man, pressing int) api.Thing { return api.Thing{Man: man, Pressing: pressing, There: true} }

func not(man, pressing int) api.Thing { return api.Thing{Man: man, Pressing: pressing} }

func contrary(x api.Thing) api.Thing {
	return api.Thing{Man: x.Man, Pressing: x.Pressing, There: !x.There}
}

func note(number int, one, other api.Thing) api.Note {
	return api.Note{Number: number, One: one, Other: other}
}

// pressings are the pressings of some Ids.
func pressings(ids ...int) api.Press {
	var p api.Press
	for _, id := range ids {
		p.Pressings = append(p.Pressings, api.Pressing{Id: id, Press: 1})
	}
	return p
}

func oil(number, pressing, lo, hi int) api.Weighing {
	return api.Weighing{Number: number, Pressing: pressing, Kind: api.WeighOil, Ounces: span(lo, hi)}
}

// example is the roll of the chapter's examples, with a pressing 3 for which nothing is paid.
func example(more ...api.Note) api.Roll {
	p := pressings(1, 2, 3)
	p.Weighings = []api.Weighing{oil(1, 1, 40, 50), oil(2, 3, 10, 20)}
	return api.Roll{
		Press:  p,
		Men:    ints(1, 2, 3),
		Shifts: []api.Shift{{Pressing: 1, Pence: 100}, {Pressing: 2, Pence: 50}},
		Notes: append([]api.Note{
			note(1, was(1, 1), was(2, 1)),
			note(2, not(2, 1), was(3, 2)),
			note(3, not(1, 2), not(3, 2)),
			note(4, not(3, 1), not(3, 1)),
		}, more...),
	}
}

// contradicted is the example with the notes 5 and 6, so that it has no truth.
func contradicted() api.Roll {
	return example(note(5, not(1, 1), not(1, 1)), note(6, not(3, 2), not(3, 2)))
}

// blank is a roll without notes: so many men, and so many shifts, with the Ids 1, 2 and so on.
func blank(men, shifts int) api.Roll {
	var r api.Roll
	for i := range men {
		r.Men = append(r.Men, i+1)
	}
	for i := range shifts {
		r.Press.Pressings = append(r.Press.Pressings, api.Pressing{Id: i + 1, Press: 1})
		r.Shifts = append(r.Shifts, api.Shift{Pressing: i + 1, Pence: 10 * (i + 1)})
	}
	return r
}

// with is a roll with other notes, each of two things, with the Numbers 1, 2 and so on.
func with(r api.Roll, things ...api.Thing) api.Roll {
	r.Notes = nil
	for i := 0; i < len(things); i += 2 {
		r.Notes = append(r.Notes, note(i/2+1, things[i], things[i+1]))
	}
	return r
}

// things are all that the roll has, in order; first those with There true.
func things(r api.Roll) []api.Thing {
	var l []api.Thing
	for _, there := range []bool{true, false} {
		for _, s := range r.Shifts {
			for _, man := range r.Men {
				l = append(l, api.Thing{Man: man, Pressing: s.Pressing, There: there})
			}
		}
	}
	return l
}

// bit is the one of a thing in a number that says who was there: the greatest one of the first man at the first shift.
func bit(r api.Roll, x api.Thing) int {
	n := slices.IndexFunc(things(r), func(y api.Thing) bool { return y.Man == x.Man && y.Pressing == x.Pressing })
	return 1 << (len(r.Men)*len(r.Shifts) - 1 - n)
}

// allows is what a note leaves of all numbers: those with a bit that is as it should be.
type allows struct{ one, other, oneSet, otherSet int }

func readNotes(r api.Roll) []allows {
	set := func(x api.Thing) int {
		if x.There {
			return bit(r, x)
		}
		return 0
	}
	var l []allows
	for _, x := range r.Notes {
		l = append(l, allows{bit(r, x.One), bit(r, x.Other), set(x.One), set(x.Other)})
	}
	return l
}

// truths are all numbers that make all notes true: every number is tried.
func truths(r api.Roll) []int {
	var l []int
	notes := readNotes(r)
next:
	for n := range 1 << (len(r.Men) * len(r.Shifts)) {
		for _, x := range notes {
			if n&x.one != x.oneSet && n&x.other != x.otherSet {
				continue next
			}
		}
		l = append(l, n)
	}
	return l
}

// so reports whether a thing is so in a truth.
func so(r api.Roll, truth int, x api.Thing) bool { return (truth&bit(r, x) != 0) == x.There }

// counted is how many truths some things are so in, all of them.
func counted(r api.Roll, all []int, l ...api.Thing) int {
	n := 0
	for _, t := range all {
		if !slices.ContainsFunc(l, func(x api.Thing) bool { return !so(r, t, x) }) {
			n++
		}
	}
	return n
}

// names are the men who were there in a truth, at each shift.
func names(r api.Roll, truth int) [][]int {
	l := make([][]int, len(r.Shifts))
	for i, s := range r.Shifts {
		for _, man := range r.Men {
			if so(r, truth, was(man, s.Pressing)) {
				l[i] = append(l[i], man)
			}
		}
	}
	return l
}

func sameNames(a, b [][]int) bool { return slices.EqualFunc(a, b, slices.Equal[[]int]) }

// walk is the thing to which a chain leads.
func walk(r api.Roll, x api.Thing, chain []int) (api.Thing, bool) {
	for _, n := range chain {
		i := slices.IndexFunc(r.Notes, func(y api.Note) bool { return y.Number == n })
		if i < 0 {
			return x, false
		}
		switch contrary(x) {
		case r.Notes[i].One:
			x = r.Notes[i].Other
		case r.Notes[i].Other:
			x = r.Notes[i].One
		default:
			return x, false
		}
	}
	return x, true
}

func compareChains(a, b []int) int {
	return cmp.Or(cmp.Compare(len(a), len(b)), slices.Compare(a, b))
}

// shorts are the first chains from a thing, of all lists of at most so many notes, each one tried.
func shorts(r api.Roll, x api.Thing, most int) map[api.Thing][]int {
	found := map[api.Thing][]int{}
	var try func(chain []int)
	try = func(chain []int) {
		y, leads := walk(r, x, chain)
		if !leads {
			return
		}
		if old, known := found[y]; !known || compareChains(chain, old) < 0 {
			found[y] = slices.Clone(chain)
		}
		if len(chain) < most {
			for _, n := range r.Notes {
				try(append(slices.Clone(chain), n.Number))
			}
		}
	}
	try(nil)
	return found
}

// firsts are the first chains from a thing. Each one is bettered by a note more behind another one, until none is.
func firsts(r api.Roll, x api.Thing) map[api.Thing][]int {
	found := map[api.Thing][]int{x: nil}
	for again := true; again; {
		again = false
		for _, y := range things(r) {
			begin, known := found[y]
			if !known {
				continue
			}
			for _, n := range r.Notes {
				end, leads := walk(r, y, ints(n.Number))
				chain := append(slices.Clone(begin), n.Number)
				if old, known := found[end]; leads && (!known || compareChains(chain, old) < 0) {
					found[end], again = chain, true
				}
			}
		}
	}
	return found
}

// lists are all lists of so many of some numbers, in order.
func lists(l []int, n int) [][]int {
	if n == 0 {
		return [][]int{nil}
	}
	var all [][]int
	for i, x := range l {
		for _, rest := range lists(l[i+1:], n-1) {
			all = append(all, append(ints(x), rest...))
		}
	}
	return all
}

func numbers(r api.Roll) []int {
	var l []int
	for _, x := range r.Notes {
		l = append(l, x.Number)
	}
	return l
}

// striking is a roll without some notes.
func striking(r api.Roll, l []int) api.Roll {
	r.Notes = slices.DeleteFunc(slices.Clone(r.Notes), func(x api.Note) bool { return slices.Contains(l, x.Number) })
	return r
}

// spare is the first of the shortest lists of at most so many notes without which there is a truth.
func spare(r api.Roll, most int) ([]int, bool) {
	for n := range most + 1 {
		for _, l := range lists(numbers(r), n) {
			if len(truths(striking(r, l))) > 0 {
				return l, true
			}
		}
	}
	return nil, false
}

// penny by penny: what each man gets, by Ids, if a shift's pence are dealt out one by one, from the first man on.
func dealt(r api.Roll, there [][]int) map[int]int {
	got := map[int]int{}
	for i, men := range there {
		for n := 0; len(men) > 0 && n < r.Shifts[i].Pence; n++ {
			got[men[n%len(men)]]++
		}
	}
	return got
}

// ids are so many numbers in increasing order, often close to one another or to the ends.
func ids(r *rand.Rand, n int) []int {
	most := []int{6, 20, 9999}[r.Intn(3)]
	seen := map[int]bool{}
	var l []int
	for len(l) < n {
		id := 1 + r.Intn(most)
		if r.Intn(4) == 0 {
			id = 9999 - r.Intn(6)
		}
		if !seen[id] {
			seen[id] = true
			l = append(l, id)
		}
	}
	slices.Sort(l)
	return l
}

// random is a valid roll. Its notes are of all things, or of a few only, so that they contradict each other.
func random(r *rand.Rand, men, shifts, notes int) api.Roll {
	all := ids(r, shifts+r.Intn(2))
	l := api.Roll{Press: pressings(all...), Men: ids(r, men)}
	for _, id := range all[:shifts] {
		pence := []int{r.Intn(10), r.Intn(200), 1000000 - r.Intn(4)}[r.Intn(3)]
		l.Shifts = append(l.Shifts, api.Shift{Pressing: id, Pence: pence})
	}
	own := things(l)
	if len(own) == 0 {
		return l
	}
	if r.Intn(2) == 0 {
		r.Shuffle(len(own), func(i, j int) { own[i], own[j] = own[j], own[i] })
		own = own[:1+r.Intn(len(own))]
		for _, x := range own {
			own = append(own, contrary(x))
		}
	}
	for i := range notes {
		one, other := own[r.Intn(len(own))], own[r.Intn(len(own))]
		if r.Intn(8) == 0 {
			other = one
		}
		l.Notes = append(l.Notes, note(i+1, one, other))
	}
	for i, n := range numbersFor(r, len(l.Notes)) {
		l.Notes[i].Number = n
	}
	return l
}

// numbersFor are numbers of so many notes.
func numbersFor(r *rand.Rand, n int) []int {
	l := r.Perm(9999)[:n]
	if r.Intn(2) == 0 {
		l = r.Perm(n)
	}
	for i := range l {
		l[i]++
	}
	slices.Sort(l)
	return l
}

// some calls back with random rolls of at most so many things, and notes.
func some(seed int64, times, mostThings, mostNotes int, f func(r *rand.Rand, l api.Roll)) {
	r := rand.New(rand.NewSource(seed))
	for range times {
		men, shifts := r.Intn(5), r.Intn(5)
		for men*shifts > mostThings {
			men, shifts = r.Intn(5), r.Intn(5)
		}
		f(r, random(r, men, shifts, r.Intn(mostNotes+1)))
	}
}

func count(t *testing.T, r api.Roll) int {
	t.Helper()
	n, e := turn.Count(r)
	if e != api.OK {
		t.Fatal(r, e)
	}
	return n
}

// put is a roll in which a thing is noted, as a note that is not there yet.
func put(t *testing.T, r api.Roll, one, other api.Thing) api.Roll {
	t.Helper()
	n := 1
	for slices.Contains(numbers(r), n) {
		n++
	}
	s, e := turn.Put(r, note(n, one, other))
	if e != api.OK {
		t.Fatal(r, e)
	}
	return s
}
