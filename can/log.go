package can

import (
	"slices"

	"oilcake/api"
	"oilcake/tank"
)

// written returns a valid log with an entry more for each pouring of a list without errors that draws from the tank, or fills it.
func (b *bench) written(l api.Log, p []api.Pouring) (api.Log, api.Errno) {
	l.Tank.Pints, l.Entries = slices.Clone(l.Tank.Pints), slices.Clone(l.Entries)
	day := 0
	if n := len(l.Entries); n > 0 {
		day = l.Entries[n-1].Day
	}
	for x := range b.play(p) {
		if x.From != source && x.To != source {
			continue
		}
		longer, e := tank.Add(l, entry(x, day))
		if e != api.OK {
			return api.Log{}, e
		}
		l = longer
	}
	return l, api.OK
}

// entry returns what a step from the tank, or into it, is in a log.
func entry(x step, day int) api.Entry {
	kind := api.EntryDraw
	if x.To == source {
		kind = api.EntryFill
	}
	return api.Entry{Day: day, Kind: kind, Size: api.Span{Lo: x.pints, Hi: x.pints}}
}
