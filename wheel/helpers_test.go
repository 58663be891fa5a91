package wheel_test

import (
	"math/big"
	"math/rand"
	"slices"

	"oilcake/api"
)

func ints(l ...int) []int { return l }

func part(num, den int) api.Part { return api.Part{Num: num, Den: den} }

func wheels(teeth ...int) api.Wheels { return api.Wheels{Teeth: teeth} }

// train is the train of some wheels, two by two.
func train(l ...int) []api.Pair {
	var t []api.Pair
	for i := 0; i < len(l); i += 2 {
		t = append(t, api.Pair{Driver: l[i], Driven: l[i+1]})
	}
	return t
}

func stamper(cams, up, pounds int) api.Stamper {
	return api.Stamper{Cams: cams, Up: up, Pounds: pounds}
}

func shaft(marks int, l ...api.Stamper) api.Shaft { return api.Shaft{Marks: marks, Stampers: l} }

// exampleWheels, exampleShaft and examplePlan are those of the chapter's examples.
func exampleWheels() api.Wheels { return wheels(20, 30, 40, 24) }

func exampleShaft() api.Shaft {
	return shaft(6, stamper(1, 2, 100), stamper(1, 3, 80), stamper(2, 1, 50))
}

func examplePlan() api.Plan {
	return api.Plan{
		From: 10, Turns: ints(2, 2, 1), Seed: 3,
		Arrivals: []api.Arrival{{Day: 11, Lots: 2}},
		Sales:    []api.Sale{{Id: 1, Sort: api.SortCold, Lots: 2, Day: 11}, {Id: 2, Sort: api.SortHot, Lots: 1, Day: 12}},
		Bursts:   1,
	}
}

// distinct reports whether no wheel is in a train twice.
func distinct(l []api.Pair) bool {
	used := map[int]int{}
	for _, p := range l {
		used[p.Driver]++
		used[p.Driven]++
	}
	return len(used) == 2*len(l)
}

// trains are all trains of so many pairs, in order: the digits of all numbers are their wheels.
func trains(w api.Wheels, pairs int) [][]api.Pair {
	n := len(w.Teeth)
	all := 1
	for range 2 * pairs {
		all *= n
	}
	var found [][]api.Pair
	for number := range all {
		digits := make([]int, 2*pairs)
		for i := range digits {
			digits[len(digits)-1-i] = number%n + 1
			number /= n
		}
		if l := train(digits...); distinct(l) {
			found = append(found, l)
		}
	}
	return found
}

// ratio is what all pairs make of a turn, one after the other.
func ratio(w api.Wheels, l []api.Pair) *big.Rat {
	r := big.NewRat(1, 1)
	for _, p := range l {
		r.Mul(r, big.NewRat(int64(w.Teeth[p.Driver-1]), int64(w.Teeth[p.Driven-1])))
	}
	return r
}

func rat(p api.Part) *big.Rat { return big.NewRat(int64(p.Num), int64(p.Den)) }

// parted is a fraction in lowest terms.
func parted(r *big.Rat) api.Part { return part(int(r.Num().Int64()), int(r.Denom().Int64())) }

// off is how far a ratio is from a wish.
func off(r *big.Rat, wish api.Part) *big.Rat {
	d := new(big.Rat).Sub(r, rat(wish))
	return d.Abs(d)
}

// chosen are the first train that is nearest to a wish, and how far it is, of those with at most so many pairs.
func chosen(w api.Wheels, wish api.Part, pairs int) ([]api.Pair, *big.Rat) {
	var best []api.Pair
	var least *big.Rat
	for n := 1; n <= pairs; n++ {
		for _, l := range trains(w, n) {
			if d := off(ratio(w, l), wish); least == nil || d.Cmp(least) < 0 {
				best, least = l, d
			}
		}
	}
	return best, least
}

// someWheels are random wheels; of few kinds, if few, so that many trains have one ratio.
func someWheels(r *rand.Rand, n int, few bool) api.Wheels {
	var w api.Wheels
	for range n {
		teeth := 6 + r.Intn(115)
		if few {
			teeth = 6 * (1 + r.Intn(5))
		}
		w.Teeth = append(w.Teeth, teeth)
	}
	return w
}

// someTrain is a random train of wheels, of which there are enough.
func someTrain(r *rand.Rand, w api.Wheels, pairs int) []api.Pair {
	var l []int
	for _, i := range r.Perm(len(w.Teeth))[:2*pairs] {
		l = append(l, i+1)
	}
	return train(l...)
}

// someShaft is a random shaft.
func someShaft(r *rand.Rand, marks, stampers int) api.Shaft {
	s := shaft(marks)
	for len(s.Stampers) < stampers {
		cams := 1 + r.Intn(marks)
		if marks%cams == 0 && marks/cams > 1 {
			s.Stampers = append(s.Stampers, stamper(cams, 1+r.Intn(marks/cams-1), 1+r.Intn(500)))
		}
	}
	return s
}

// upAt are of all marks those at which a stamper is up: so many from each of its cams on.
func upAt(s api.Shaft, i, number int) []bool {
	x := s.Stampers[i]
	up := make([]bool, s.Marks)
	for cam := range x.Cams {
		for k := range x.Up {
			up[(number+cam*(s.Marks/x.Cams)+k)%s.Marks] = true
		}
	}
	return up
}

// loads are what a setting lifts at each mark, and how many stampers are up there.
func loads(s api.Shaft, set []int) (pounds, stampers []int) {
	pounds, stampers = make([]int, s.Marks), make([]int, s.Marks)
	for i, number := range set {
		for mark, up := range upAt(s, i, number) {
			if up {
				pounds[mark] += s.Stampers[i].Pounds
				stampers[mark]++
			}
		}
	}
	return pounds, stampers
}

// settings are all settings of a shaft, in order.
func settings(s api.Shaft) [][]int {
	all := [][]int{nil}
	for _, x := range s.Stampers {
		var longer [][]int
		for _, set := range all {
			for n := range s.Marks / x.Cams {
				longer = append(longer, append(slices.Clone(set), n))
			}
		}
		all = longer
	}
	return all
}

// somePlan is a random plan.
func somePlan(r *rand.Rand) api.Plan {
	p := api.Plan{From: r.Intn(100), Seed: r.Intn(5), Cakes: r.Intn(3), Bursts: r.Intn(3)}
	for range 1 + r.Intn(4) {
		p.Turns = append(p.Turns, r.Intn(4))
	}
	for i := range r.Intn(3) {
		p.Sales = append(p.Sales, api.Sale{Id: i + 1, Sort: 1 + r.Intn(2), Lots: 1 + r.Intn(2), Day: p.From + r.Intn(len(p.Turns))})
	}
	if r.Intn(2) == 0 {
		p.Arrivals = []api.Arrival{{Day: p.From + r.Intn(len(p.Turns)), Lots: 1 + r.Intn(3)}}
	}
	return p
}

func samePlan(p, q api.Plan) bool {
	return p.From == q.From && slices.Equal(p.Turns, q.Turns) && p.Seed == q.Seed && p.Cakes == q.Cakes && slices.Equal(p.Arrivals, q.Arrivals) && slices.Equal(p.Sales, q.Sales) && p.Bursts == q.Bursts
}
