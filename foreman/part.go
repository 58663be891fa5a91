package foreman

import (
	"slices"

	"oilcake/api"
	"oilcake/can"
	"oilcake/mark"
	"oilcake/plan"
	"oilcake/press"
	"oilcake/round"
	"oilcake/sample"
	"oilcake/stow"
	"oilcake/tank"
	"oilcake/turn"
	"oilcake/wheel"
)

// The parts of a mill. What was done is one with the plan, and the train with the wheels.
const (
	partCargo = iota
	partPress
	partRoll
	partLog
	partPlan
	partShip
	partMarks
	partWatch
	partCans
	partWheels
	parts
)

// flags says of each part of a mill whether something is so.
type flags [parts]bool

func eachPart(is func(part int) bool) flags {
	var f flags
	for part := range parts {
		f[part] = is(part)
	}
	return f
}

func every() flags { return eachPart(func(int) bool { return true }) }

// check returns the error of a part.
func (d *day) check(part int) (e api.Errno) {
	switch part {
	case partCargo:
		e = sample.Check(d.Cargo)
	case partPress:
		e = press.Check(d.Roll.Press)
	case partRoll:
		e = turn.Check(d.Roll)
	case partLog:
		e = tank.Valid(d.Log)
	case partPlan:
		_, e = plan.Play(d.Plan, d.Did)
	case partShip:
		e = stow.Check(d.Ship)
	case partMarks:
		e = mark.Check(d.Marks)
	case partWatch:
		e = round.Check(d.Watch)
	case partCans:
		e = can.Check(d.Cans)
	case partWheels:
		_, e = wheel.Ratio(d.Wheels, d.Train)
	}
	return e
}

func (d *day) valid(part int) bool { return d.check(part) == api.OK }

// holds reports whether a valid part is sound. A part of which no truth is told always is.
func (d *day) holds(part int) bool {
	is := true
	switch part {
	case partPress:
		is, _ = press.Holds(d.Roll.Press)
	case partRoll:
		truths, _ := turn.Count(d.Roll)
		is = truths > 0
	case partLog:
		_, e := tank.Truth(d.Log)
		is = e == api.OK
	case partShip:
		ways, _ := stow.Ways(d.Ship)
		is = ways > 0
	case partMarks:
		is, _ = mark.Holds(d.Marks)
	case partWatch:
		is, _ = round.Can(d.Watch)
	}
	return is
}

// alike says which parts of two mills are the same.
func alike(a, b api.Mill) flags {
	return flags{
		partCargo:  a.Cargo == b.Cargo,
		partPress:  slices.Equal(a.Roll.Press.Pressings, b.Roll.Press.Pressings) && slices.Equal(a.Roll.Press.Weighings, b.Roll.Press.Weighings),
		partRoll:   slices.Equal(a.Roll.Men, b.Roll.Men) && slices.Equal(a.Roll.Shifts, b.Roll.Shifts) && slices.Equal(a.Roll.Notes, b.Roll.Notes),
		partLog:    alikeTanks(a.Log.Tank, b.Log.Tank) && a.Log.Start == b.Log.Start && slices.Equal(a.Log.Entries, b.Log.Entries),
		partPlan:   alikePlans(a.Plan, b.Plan) && slices.Equal(a.Did, b.Did),
		partShip:   slices.Equal(a.Ship.Holds, b.Ship.Holds) && slices.Equal(a.Ship.Lots, b.Ship.Lots) && slices.Equal(a.Ship.Probes, b.Ship.Probes) && a.Ship.Limit == b.Ship.Limit,
		partMarks:  alikeMarks(a.Marks, b.Marks),
		partWatch:  a.Watch.Hands == b.Watch.Hands && slices.Equal(a.Watch.Ricks, b.Watch.Ricks),
		partCans:   slices.Equal(a.Cans.Sizes, b.Cans.Sizes) && slices.Equal(a.Cans.In, b.Cans.In) && a.Cans.Stock == b.Cans.Stock,
		partWheels: slices.Equal(a.Wheels.Teeth, b.Wheels.Teeth) && slices.Equal(a.Train, b.Train),
	}
}

func alikeTanks(a, b api.Tank) bool {
	return slices.Equal(a.Pints, b.Pints) && a.Leak == b.Leak && a.Foot == b.Foot
}

func alikePlans(a, b api.Plan) bool {
	return a.From == b.From && slices.Equal(a.Turns, b.Turns) && a.Seed == b.Seed && a.Cakes == b.Cakes &&
		slices.Equal(a.Arrivals, b.Arrivals) && slices.Equal(a.Sales, b.Sales) && a.Bursts == b.Bursts
}

func alikeMarks(a, b api.Marks) bool {
	return slices.Equal(a.Batches, b.Batches) && slices.Equal(a.Trials, b.Trials) &&
		slices.Equal(a.Tops, b.Tops) && slices.Equal(a.Steps, b.Steps)
}
