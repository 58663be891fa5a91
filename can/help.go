package can

import (
	"iter"
	"slices"

	"oilcake/api"
)

// help is the size of a can more, and how many pourings are enough with it.
type help struct{ size, many int }

// helps yields all cans that help to measure some pints, but those of just that size.
func helps(c api.Cans, pints int) iter.Seq[help] {
	return func(yield func(help) bool) {
		for n := range api.MaxSize {
			size := n + 1
			if size == pints {
				continue
			}
			b := work(added(c, size))
			if f := b.look(amount{b, pints}.inOne); f.some && !yield(help{size, f.many}) {
				return
			}
		}
	}
}

// added returns cans of their own memory, with one more, which is empty.
func added(c api.Cans, size int) api.Cans {
	return api.Cans{Sizes: slices.Concat(c.Sizes, []int{size}), In: slices.Concat(c.In, []int{0}), Stock: c.Stock}
}
