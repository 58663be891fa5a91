package mark

import (
	"slices"

	"oilcake/api"
)

// within reports whether all of some numbers are in a span.
func within(s api.Span, l ...int) bool {
	for _, n := range l {
		if n < s.Lo || n > s.Hi {
			return false
		}
	}
	return true
}

// unless returns an error unless something is so.
func unless(so bool, e api.Errno) api.Errno {
	if so {
		return api.OK
	}
	return e
}

// firstError returns the first of some codes that is an error, otherwise OK.
func firstError(l ...api.Errno) api.Errno {
	e, _ := first(slices.Values(l), func(e api.Errno) bool { return e != api.OK })
	return e
}

// question is something that is so of marks that are valid.
type question struct {
	so func(m api.Marks) bool
}

// questions returns what marks are asked. Each one may rely on those before it: what is looked for is in short lists, and what is summed is small.
func questions() [5]question {
	return [5]question{{batchesFit}, {openFits}, {trialsFit}, {stepsFit}, {cakesFit}}
}

func batchesFit(m api.Marks) bool {
	if len(m.Batches) > api.MaxBatches {
		return false
	}
	for i, x := range m.Batches {
		if !batchFits(x) || x.From != 0 && !hasBatch(m.Batches[:i], x.From) {
			return false
		}
	}
	return inOrder(m.Batches, func(x, y api.Batch) bool { return x.Id < y.Id })
}

// batchFits reports whether a batch is valid, but for where its parings come from.
func batchFits(x api.Batch) bool {
	return within(ids(), x.Id) && kindFits(x.Kind) && within(api.Span{Lo: 1, Hi: api.MaxStones}, x.Stone) &&
		within(api.Span{Lo: api.KnownNo, Hi: api.KnownYes}, int(x.Clean), int(x.Round)) &&
		(x.From != 0 || x.Round == api.KnownNo) &&
		within(api.Span{Hi: api.MaxMarks}, x.Mark) && within(cakes(), x.Cakes)
}

func openFits(m api.Marks) bool {
	open := 0
	for _, x := range m.Batches {
		for _, known := range [...]uint8{x.Clean, x.Round} {
			if known == api.KnownOpen {
				open++
			}
		}
	}
	return open <= api.MaxOpen
}

func trialsFit(m api.Marks) bool {
	wrong := func(x api.Trial) bool {
		return !within(ids(), x.Number) || !hasBatch(m.Batches, x.Batch) || !kindFits(x.Kind)
	}
	return len(m.Trials) <= api.MaxTrials && !slices.ContainsFunc(m.Trials, wrong) &&
		inOrder(m.Trials, func(x, y api.Trial) bool { return x.Number < y.Number })
}

func stepsFit(m api.Marks) bool {
	wrong := func(x api.Step) bool {
		put := x.Buyer == 0 && hasBatch(m.Batches, x.Batch)
		taken := x.Batch == 0 && within(ids(), x.Buyer)
		return !hasStack(m, x.Stack) || !within(cakes(), x.Cakes) || !put && !taken
	}
	return len(m.Tops) <= api.MaxStacks && len(m.Steps) <= api.MaxSteps && !slices.ContainsFunc(m.Steps, wrong)
}

// cakesFit reports whether there are as many cakes of a batch as are put, and on a stack as are taken.
func cakesFit(m api.Marks) bool {
	left, lying := map[int]int{}, map[int]int{}
	for _, x := range m.Batches {
		left[x.Id] = x.Cakes
	}
	for _, x := range m.Steps {
		if x.Buyer == 0 {
			left[x.Batch] -= x.Cakes
			lying[x.Stack] += x.Cakes
		} else {
			lying[x.Stack] -= x.Cakes
		}
		if left[x.Batch] < 0 || lying[x.Stack] < 0 {
			return false
		}
	}
	return true
}

// ids are all numbers that things can be known by, cakes how many there can be of something.
func ids() api.Span { return api.Span{Lo: 1, Hi: api.MaxId} }

func cakes() api.Span { return api.Span{Lo: 1, Hi: api.MaxCakes} }

func kindFits(kind int) bool { return within(api.Span{Lo: 1, Hi: api.MaxKinds}, kind) }

func hasStack(m api.Marks, stack int) bool { return within(api.Span{Lo: 1, Hi: len(m.Tops)}, stack) }

func hasBatch(l []api.Batch, id int) bool { return place(l, id) >= 0 }

// place returns where in a list the batch with an Id is; below 0 if there is none.
func place(l []api.Batch, id int) int {
	return slices.IndexFunc(l, func(x api.Batch) bool { return x.Id == id })
}

// inOrder reports whether each thing of a list may follow the one before it.
func inOrder[T any](l []T, may func(x, y T) bool) bool {
	for i := 1; i < len(l); i++ {
		if !may(l[i-1], l[i]) {
			return false
		}
	}
	return true
}

// copied returns marks of their own memory.
func copied(m api.Marks) api.Marks {
	m.Batches, m.Trials = slices.Clone(m.Batches), slices.Clone(m.Trials)
	m.Tops, m.Steps = slices.Clone(m.Tops), slices.Clone(m.Steps)
	return m
}

// valid returns marks, or an error unless they are valid.
func valid(m api.Marks, e api.Errno) (api.Marks, api.Errno) {
	if Check(m) != api.OK {
		return api.Marks{}, e
	}
	return m, api.OK
}
