package wire

import "oilcake/api"

// ofPress returns the numbers of a press.
func ofPress(p api.Press) []int {
	l := []int{len(p.Pressings)}
	for _, x := range p.Pressings {
		l = append(l, x.Id, x.Day, x.Press, x.To)
	}
	l = append(l, len(p.Weighings))
	for _, x := range p.Weighings {
		l = append(l, x.Number, x.Pressing, x.Kind, x.Ounces.Lo, x.Ounces.Hi)
	}
	return l
}

// press reads a press. Fields are read in the order in which they are written.
func (t *tape) press() api.Press {
	var p api.Press
	p.Pressings = many(t, func() api.Pressing {
		return api.Pressing{Id: t.next(), Day: t.next(), Press: t.next(), To: t.next()}
	})
	p.Weighings = many(t, func() api.Weighing {
		return api.Weighing{Number: t.next(), Pressing: t.next(), Kind: t.next(), Ounces: api.Span{Lo: t.next(), Hi: t.next()}}
	})
	return p
}

// ofRoll returns the numbers of a roll.
func ofRoll(r api.Roll) []int {
	l := append(ofPress(r.Press), len(r.Men))
	l = append(l, r.Men...)
	l = append(l, len(r.Shifts))
	for _, x := range r.Shifts {
		l = append(l, x.Pressing, x.Pence)
	}
	l = append(l, len(r.Notes))
	for _, x := range r.Notes {
		l = append(l, x.Number)
		l = append(l, ofThing(x.One)...)
		l = append(l, ofThing(x.Other)...)
	}
	return l
}

// roll reads a roll.
func (t *tape) roll() api.Roll {
	var r api.Roll
	r.Press = t.press()
	r.Men = many(t, t.next)
	r.Shifts = many(t, func() api.Shift { return api.Shift{Pressing: t.next(), Pence: t.next()} })
	r.Notes = many(t, func() api.Note { return api.Note{Number: t.next(), One: t.thing(), Other: t.thing()} })
	return r
}

func ofThing(x api.Thing) []int {
	if x.There {
		return []int{x.Man, x.Pressing, 1}
	}
	return []int{x.Man, x.Pressing, 0}
}

// thing reads a thing.
func (t *tape) thing() api.Thing {
	x := api.Thing{Man: t.next(), Pressing: t.next()}
	there := t.next()
	need(within(api.Span{Hi: 1}, there))
	x.There = there == 1
	return x
}
