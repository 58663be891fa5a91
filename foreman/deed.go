package foreman

import (
	"slices"

	"oilcake/api"
	"oilcake/can"
	"oilcake/mark"
	"oilcake/plan"
	"oilcake/press"
	"oilcake/round"
	"oilcake/sample"
	"oilcake/stow"
	"oilcake/tank"
	"oilcake/turn"
	"oilcake/wheel"
	"oilcake/wire"
)

// deed is what a verb does.
type deed struct {
	do func(o order) answer
}

// deeds returns what all verbs do on a day.
func (d *day) deeds() [api.VerbRead + 1]deed {
	return [...]deed{
		api.VerbDraw:    {d.draw},
		api.VerbWeigh:   {d.weigh},
		api.VerbAll:     {d.all},
		api.VerbFlow:    {d.flow},
		api.VerbPour:    {d.pour},
		api.VerbMeasure: {d.measure},
		api.VerbSell:    {d.sell},
		api.VerbPress:   {d.press},
		api.VerbDone:    {d.done},
		api.VerbWater:   {d.water},
		api.VerbProbe:   {d.probe},
		api.VerbHold:    {d.hold},
		api.VerbTest:    {d.test},
		api.VerbPut:     {d.put},
		api.VerbGive:    {d.give},
		api.VerbWarn:    {d.warn},
		api.VerbTurn:    {d.turn},
		api.VerbToday:   {d.today},
		api.VerbNote:    {d.note},
		api.VerbPay:     {d.pay},
		api.VerbWire:    {d.wire},
		api.VerbRead:    {d.read},
	}
}

// flag returns whether a number says that something is so; it is denied unless it is 0 or 1.
func flag(n int) bool {
	deny(unless(within(api.Span{Hi: 1}, n), api.ErrArg))
	return n == 1
}

// need denies what leaves some parts without a truth.
func (d *day) need(l ...int) {
	for _, part := range l {
		deny(unless(d.holds(part), api.ErrBad))
	}
}

func (d *day) draw(o order) answer {
	x := api.Draw{Opened: o.numbers[0], Found: o.numbers[1]}
	dirty := span(sample.Can(d.Cargo, x))
	rest, e := sample.Rest(d.Cargo, x)
	deny(e)
	d.Cargo = rest
	return dirty
}

func (d *day) weigh(o order) answer {
	n := o.numbers
	p, e := press.Weigh(d.Roll.Press, api.Weighing{Number: n[0], Pressing: n[1], Kind: n[2], Ounces: api.Span{Lo: n[3], Hi: n[4]}})
	deny(e)
	d.Roll.Press = p
	d.need(partPress)
	return well
}

func (d *day) all(o order) answer { return span(press.All(d.Roll.Press, o.numbers[0])) }

func (d *day) flow(o order) answer {
	n := o.numbers
	l, e := tank.Add(d.Log, api.Entry{Kind: n[0], Day: n[1], Size: api.Span{Lo: n[2], Hi: n[3]}})
	deny(e)
	d.Log = l
	return span(tank.Holds(l, len(l.Entries)))
}

// tankCans returns the cans with what may be drawn from the tank for sure.
func (d *day) tankCans() api.Cans {
	ready, e := tank.Ready(d.Log)
	deny(e)
	c := d.Cans
	c.Stock = ready.Lo
	return c
}

func (d *day) pour(o order) answer {
	c := d.tankCans()
	var l []api.Pouring
	for x := range slices.Chunk(o.list(), 2) {
		l = append(l, api.Pouring{From: x[0], To: x[1]})
	}
	after, _, _, e := can.Play(c, l)
	deny(e)
	written, e := can.Written(d.Log, c, l)
	deny(e)
	d.Cans, d.Log = after, written
	d.need(partLog)
	return numbers(after.In...)
}

func (d *day) measure(o order) answer {
	l, _, e := can.Least(d.tankCans(), o.numbers[0])
	deny(e)
	var n []int
	for _, x := range l {
		n = append(n, x.From, x.To)
	}
	return numbers(n...)
}

// planTo puts another plan in the place of the plan, if what was done is valid for it, and it is sure.
func (d *day) planTo(p api.Plan, e api.Errno) {
	deny(e)
	sure, e := plan.Sure(p, d.Did)
	deny(e)
	deny(unless(sure, api.ErrSure))
	d.Plan = p
}

func (d *day) sell(o order) answer {
	n := o.numbers
	d.planTo(plan.Sell(d.Plan, api.Sale{Id: n[0], Sort: n[1], Lots: n[2], Day: n[3]}))
	return well
}

func (d *day) press(order) answer { return number(plan.Next(d.Plan, d.Did)) }

func (d *day) done(o order) answer {
	l := append(slices.Clone(d.Did), api.Did{Sort: o.numbers[0], Burst: flag(o.numbers[1])})
	late := list(plan.Late(d.Plan, l))
	d.Did = l
	return late
}

func (d *day) water(o order) answer {
	l := o.list()
	last := len(l) - 1
	d.planTo(wheel.Paced(d.Plan, l[:last], d.Wheels, d.Train, l[last]))
	return well
}

func (d *day) probe(o order) answer {
	n := o.numbers
	s, e := stow.Put(d.Ship, api.Probe{Number: n[0], Hold: n[1], Depth: n[2], Mark: n[3]})
	deny(e)
	d.Ship = s
	d.need(partShip)
	return number(stow.Ways(s))
}

func (d *day) hold(o order) answer {
	verdict, e := stow.Verdict(d.Ship, o.numbers[0])
	return number(int(verdict), e)
}

func (d *day) test(o order) answer {
	n := o.numbers
	m, e := mark.Try(d.Marks, api.Trial{Number: n[0], Batch: n[1], Kind: n[2], Found: flag(n[3])})
	deny(e)
	d.Marks = m
	d.need(partMarks)
	return well
}

// step puts one step more behind those of the marks.
func (d *day) step(x api.Step) answer {
	d.Marks.Steps = append(slices.Clone(d.Marks.Steps), x)
	deny(mark.Check(d.Marks))
	return well
}

func (d *day) put(o order) answer {
	return d.step(api.Step{Stack: o.numbers[0], Batch: o.numbers[1], Cakes: o.numbers[2]})
}

func (d *day) give(o order) answer {
	return d.step(api.Step{Stack: o.numbers[0], Buyer: o.numbers[1], Cakes: o.numbers[2]})
}

func (d *day) warn(o order) answer { return list(mark.Warn(d.Marks, o.numbers[0])) }

func (d *day) turn(o order) answer {
	w, e := round.After(d.Watch, [][]int{o.list()})
	deny(e)
	d.Watch = w
	d.need(partWatch)
	return well
}

func (d *day) today(order) answer { return list(round.Today(d.Watch)) }

func (d *day) note(o order) answer {
	n := o.numbers
	one := api.Thing{Man: n[1], Pressing: n[2], There: flag(n[3])}
	other := api.Thing{Man: n[4], Pressing: n[5], There: flag(n[6])}
	r, e := turn.Put(d.Roll, api.Note{Number: n[0], One: one, Other: other})
	deny(e)
	d.Roll = r
	d.need(partRoll)
	return number(turn.Count(r))
}

func (d *day) pay(o order) answer { return span(turn.Pay(d.Roll, o.numbers[0])) }

func (d *day) wire(order) answer { return signs(wire.OfRoll(d.Roll)) }

func (d *day) read(o order) answer {
	r, e := wire.ToRoll(o.signs)
	deny(e)
	d.Roll = r
	d.need(partRoll, partPress)
	return well
}
