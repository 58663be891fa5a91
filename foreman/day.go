package foreman

import (
	"iter"

	"oilcake/api"
)

// day is a mill at work.
type day struct{ api.Mill }

// work returns a mill at work, in memory of its own.
func work(m api.Mill) *day { return &day{Twin(m)} }

// answers yields all lines of a text with their answers, each one as soon as it is done.
func (d *day) answers(text string) iter.Seq2[string, string] {
	return func(yield func(line, answer string) bool) {
		for line := range lines(text) {
			if !yield(line, d.hear(line)) {
				return
			}
		}
	}
}

// hear does what a line says, and returns the answer.
func (d *day) hear(line string) string {
	o, is := read(line)
	if !is {
		return unknown
	}
	return d.do(o)
}

// do does an order, and returns the answer. What an order changes is put in the place of what was there, so that all is as before if it is denied.
func (d *day) do(o order) (said string) {
	before := d.Mill
	defer func() {
		switch thrown := recover().(type) {
		case nil:
		case denied:
			d.Mill = before
			said = thrown.answer()
		default:
			panic(thrown)
		}
	}()
	tell := d.deeds()[o.verb].do(o)
	return tell()
}
