package round

import (
	"slices"

	"oilcake/api"
)

// turning returns which ricks are turned on a day that is given by their Ids.
func (d *day) turning(ids []int) turning {
	var t turning
	for i, x := range d.Ricks {
		t[i] = slices.Contains(ids, x.Id)
	}
	return t
}

// play returns what the ricks have waited after some days, and which became hot on them.
func (d *day) play(s waited, days [][]int) (waited, []api.Heat) {
	var hot []api.Heat
	for n, l := range days {
		s = d.turned(s, d.turning(l))
		for i, x := range d.Ricks {
			if d.heats(i, s) {
				hot = append(hot, api.Heat{Day: n + 1, Rick: x.Id})
			}
		}
	}
	return s, hot
}

// repeats reports whether some days can be done again and again. To do them MaxEvery times is enough: a rick that they do not turn is hot then, and one that they turn has waited as long at the end of the first time as at the end of each.
func (d *day) repeats(days [][]int) bool {
	s := d.now()
	for range api.MaxEvery {
		end, hot := d.play(s, days)
		if len(hot) > 0 {
			return false
		}
		s = end
	}
	return true
}

// since returns a watch of its own memory whose ricks have waited so long.
func since(w api.Watch, s waited) api.Watch {
	w = copied(w)
	for i := range w.Ricks {
		w.Ricks[i].Waited = s[i]
	}
	return w
}
