package foreman_test

import (
	"fmt"
	"regexp"
	"strconv"
	"strings"

	"oilcake/api"
	"oilcake/can"
	"oilcake/mark"
	"oilcake/plan"
	"oilcake/press"
	"oilcake/round"
	"oilcake/sample"
	"oilcake/stow"
	"oilcake/tank"
	"oilcake/turn"
	"oilcake/wheel"
	"oilcake/wire"
)

// grammar is what the lines of all verbs are like, in the order of the verbs; # is a number behind a space.
func grammar() []*regexp.Regexp {
	var l []*regexp.Regexp
	for _, x := range []string{
		`draw#{2}`, `weigh#{5}`, `all#`, `flow#{4}`, `pour(?:##){1,8}`, `measure#`, `sell#{4}`, `press`, `done#{2}`, `water#{2,13}`,
		`probe#{4}`, `hold#`, `test#{4}`, `put#{3}`, `give#{3}`, `warn#`, `turn#{0,3}`, `today`, `note#{7}`, `pay#`, `wire`, `read [-.]+`,
	} {
		x = strings.ReplaceAll(x, `#`, `(?: (?:0|[1-9][0-9]{0,6}))`)
		l = append(l, regexp.MustCompile(`\A`+x+`\z`))
	}
	return l
}

var grammars = grammar()

// verbOf is the verb of a line, 0 if it has none.
func verbOf(line string) int {
	for i, x := range grammars {
		if x.MatchString(line) && len(line) <= 20000 {
			return i + 1
		}
	}
	return 0
}

// answered is a text of numbers, as they are answered.
func answered(l ...int) string {
	if len(l) == 0 {
		return "-"
	}
	return strings.Trim(fmt.Sprint(l), "[]")
}

func answeredSpan(s api.Span) string { return answered(s.Lo, s.Hi) }

// outcome is what comes of an order: the errors with which it can be denied, in order, and otherwise the answer and the mill.
type outcome struct {
	errors []api.Errno
	answer string
	m      api.Mill
}

// errorIf is an error if something is so.
func errorIf(so bool, e api.Errno) api.Errno {
	if so {
		return e
	}
	return api.OK
}

// model does what a line says, as the chapter's table tells it.
func model(m api.Mill, line string) (api.Mill, string) {
	verb := verbOf(line)
	if verb == 0 {
		return m, "?"
	}
	var n []int
	words := strings.Fields(line)[1:]
	for _, word := range words {
		x, _ := strconv.Atoi(word)
		n = append(n, x)
	}
	var x outcome
	switch {
	case verb == api.VerbRead:
		x = modelRead(m, words[0])
	case verb <= api.VerbMeasure:
		x = modelStore(m, verb, n)
	case verb <= api.VerbWater:
		x = modelPlan(m, verb, n)
	default:
		x = modelRest(m, verb, n)
	}
	for _, e := range x.errors {
		if e != api.OK {
			return m, fmt.Sprintf("no %d", e)
		}
	}
	return x.m, x.answer
}

func modelRead(m api.Mill, signs string) outcome {
	roll, e := wire.ToRoll(signs)
	m.Roll = roll
	truths, _ := turn.Count(roll)
	is, _ := press.Holds(roll.Press)
	return outcome{[]api.Errno{e, errorIf(truths == 0 || !is, api.ErrBad)}, "well", m}
}

// modelStore is what comes of orders about the cargo, the press, the tank and the cans.
func modelStore(m api.Mill, verb int, n []int) outcome {
	switch verb {
	case api.VerbDraw:
		d := api.Draw{Opened: n[0], Found: n[1]}
		s, e := sample.Can(m.Cargo, d)
		rest, f := sample.Rest(m.Cargo, d)
		m.Cargo = rest
		return outcome{[]api.Errno{e, f}, answeredSpan(s), m}
	case api.VerbWeigh:
		p, e := press.Weigh(m.Roll.Press, api.Weighing{Number: n[0], Pressing: n[1], Kind: n[2], Ounces: span(n[3], n[4])})
		is, _ := press.Holds(p)
		m.Roll.Press = p
		return outcome{[]api.Errno{e, errorIf(!is, api.ErrBad)}, "well", m}
	case api.VerbAll:
		s, e := press.All(m.Roll.Press, n[0])
		return outcome{[]api.Errno{e}, answeredSpan(s), m}
	case api.VerbFlow:
		l, e := tank.Add(m.Log, api.Entry{Day: n[1], Kind: n[0], Size: span(n[2], n[3])})
		_, f := tank.Truth(l)
		s, _ := tank.Holds(l, len(m.Log.Entries)+1)
		m.Log = l
		return outcome{[]api.Errno{e, errorIf(f != api.OK, api.ErrBad)}, answeredSpan(s), m}
	}
	ready, e := tank.Ready(m.Log)
	c := api.Cans{Sizes: m.Cans.Sizes, In: m.Cans.In, Stock: ready.Lo}
	if verb == api.VerbMeasure {
		l, _, f := can.Least(c, n[0])
		var way []int
		for _, x := range l {
			way = append(way, x.From, x.To)
		}
		return outcome{[]api.Errno{e, f}, answered(way...), m}
	}
	var l []api.Pouring
	for i := 0; i < len(n); i += 2 {
		l = append(l, api.Pouring{From: n[i], To: n[i+1]})
	}
	after, _, _, f := can.Play(c, l)
	log, g := can.Written(m.Log, c, l)
	_, h := tank.Truth(log)
	m.Cans, m.Log = after, log
	return outcome{[]api.Errno{e, f, g, errorIf(h != api.OK, api.ErrBad)}, answered(after.In...), m}
}

// modelPlan is what comes of orders about the plan.
func modelPlan(m api.Mill, verb int, n []int) outcome {
	switch verb {
	case api.VerbPress:
		sort, e := plan.Next(m.Plan, m.Did)
		return outcome{[]api.Errno{e}, answered(sort), m}
	case api.VerbDone:
		l := append([]api.Did{}, m.Did...)
		l = append(l, api.Did{Sort: n[0], Burst: n[1] == 1})
		_, e := plan.Play(m.Plan, l)
		late, _ := plan.Late(m.Plan, l)
		m.Did = l
		return outcome{[]api.Errno{errorIf(n[1] > 1, api.ErrArg), e}, answered(late...), m}
	}
	var p api.Plan
	var e api.Errno
	if verb == api.VerbSell {
		p, e = plan.Sell(m.Plan, api.Sale{Id: n[0], Sort: n[1], Lots: n[2], Day: n[3]})
	} else {
		p, e = wheel.Paced(m.Plan, n[:len(n)-1], m.Wheels, m.Train, n[len(n)-1])
	}
	_, f := plan.Play(p, m.Did)
	sure, _ := plan.Sure(p, m.Did)
	m.Plan = p
	return outcome{[]api.Errno{e, f, errorIf(!sure, api.ErrSure)}, "well", m}
}

// modelRest is what comes of all other orders.
func modelRest(m api.Mill, verb int, n []int) outcome {
	switch verb {
	case api.VerbProbe:
		s, e := stow.Put(m.Ship, api.Probe{Number: n[0], Hold: n[1], Depth: n[2], Mark: n[3]})
		ways, _ := stow.Ways(s)
		m.Ship = s
		return outcome{[]api.Errno{e, errorIf(ways == 0, api.ErrBad)}, answered(ways), m}
	case api.VerbHold:
		v, e := stow.Verdict(m.Ship, n[0])
		return outcome{[]api.Errno{e}, answered(int(v)), m}
	case api.VerbTest:
		x, e := mark.Try(m.Marks, api.Trial{Number: n[0], Batch: n[1], Kind: n[2], Found: n[3] == 1})
		is, _ := mark.Holds(x)
		m.Marks = x
		return outcome{[]api.Errno{errorIf(n[3] > 1, api.ErrArg), e, errorIf(!is, api.ErrBad)}, "well", m}
	case api.VerbPut, api.VerbGive:
		x := api.Step{Stack: n[0], Batch: n[1], Cakes: n[2]}
		if verb == api.VerbGive {
			x.Batch, x.Buyer = 0, n[1]
		}
		m.Marks.Steps = append(append([]api.Step{}, m.Marks.Steps...), x)
		return outcome{[]api.Errno{mark.Check(m.Marks)}, "well", m}
	case api.VerbWarn:
		l, e := mark.Warn(m.Marks, n[0])
		return outcome{[]api.Errno{e}, answered(l...), m}
	case api.VerbTurn:
		w, e := round.After(m.Watch, [][]int{n})
		is, _ := round.Can(w)
		m.Watch = w
		return outcome{[]api.Errno{e, errorIf(!is, api.ErrBad)}, "well", m}
	case api.VerbToday:
		l, e := round.Today(m.Watch)
		return outcome{[]api.Errno{e}, answered(l...), m}
	case api.VerbNote:
		r, e := turn.Put(m.Roll, api.Note{Number: n[0], One: thing(n[1], n[2], n[3] == 1), Other: thing(n[4], n[5], n[6] == 1)})
		truths, _ := turn.Count(r)
		m.Roll = r
		return outcome{[]api.Errno{errorIf(n[3] > 1 || n[6] > 1, api.ErrArg), e, errorIf(truths == 0, api.ErrBad)}, answered(truths), m}
	case api.VerbPay:
		s, e := turn.Pay(m.Roll, n[0])
		return outcome{[]api.Errno{e}, answeredSpan(s), m}
	}
	signs, e := wire.OfRoll(m.Roll)
	return outcome{[]api.Errno{e}, signs, m}
}
