package turn

import (
	"cmp"
	"iter"
	"maps"
	"slices"

	"oilcake/api"
)

// contrary returns that a man was not there where he was, or was where he was not.
func contrary(x api.Thing) api.Thing {
	x.There = !x.There
	return x
}

// step leads to a thing by a note.
type step struct {
	note int
	to   api.Thing
}

// lead keeps the steps by a note: if the one of its things is not so, the other one is.
func (l *ledger) lead(x api.Note) {
	down, up := contrary(x.One), contrary(x.Other)
	l.steps[down] = append(l.steps[down], step{x.Number, x.Other})
	if x.One != x.Other {
		l.steps[up] = append(l.steps[up], step{x.Number, x.One})
	}
}

// chains returns the first chain from a thing to each one to which a chain leads. Of the things that steps lead to, the one with the first chain is always followed next: so the chain by which a thing is reached first is its first one.
func (l *ledger) chains(from api.Thing) map[api.Thing][]int {
	chains := map[api.Thing][]int{}
	ahead := map[api.Thing][]int{from: nil}
	for len(ahead) > 0 {
		x, _ := foremost(maps.Keys(ahead), func(x, y api.Thing) int { return shorter(ahead[x], ahead[y]) })
		chains[x] = ahead[x]
		delete(ahead, x)
		for _, s := range l.steps[x] {
			_, followed := chains[s.to]
			_, reached := ahead[s.to]
			if !followed && !reached {
				ahead[s.to] = slices.Concat(chains[x], []int{s.note})
			}
		}
	}
	return chains
}

// clash is a thing with the chains that lead from it to its contrary, and back.
type clash struct {
	thing    api.Thing
	down, up []int
}

// long returns how long both chains are together.
func (c clash) long() int { return len(c.down) + len(c.up) }

// clashes yields all things that have both chains, in order.
func (l *ledger) clashes() iter.Seq[clash] {
	return func(yield func(clash) bool) {
		for _, p := range l.places {
			x := l.thing(p)
			down, falls := l.chains(x)[contrary(x)]
			up, rises := l.chains(contrary(x))[x]
			if falls && rises && !yield(clash{x, down, up}) {
				return
			}
		}
	}
}

// shortest returns the first of the shortest clashes, and whether there is one.
func (l *ledger) shortest() (clash, bool) {
	return foremost(l.clashes(), func(x, y clash) int { return cmp.Compare(x.long(), y.long()) })
}
