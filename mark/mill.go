package mark

import (
	"iter"
	"slices"

	"oilcake/api"
)

// kinds is some kinds of seed, each of them a bit.
type kinds uint8

func only(kind int) kinds { return 1 << kind }

func (k kinds) has(kind int) bool { return k&only(kind) != 0 }

// held is what each batch holds.
type held [api.MaxBatches]kinds

// truth tells of each batch whether the stone was cleaned before it, whether parings went into it, and what it holds then.
type truth struct {
	clean, round [api.MaxBatches]bool
	held         held
}

// mill is marks at work, with all their truths. Of each batch it knows the one before it on its stone, and the one of which parings may have gone into it, by their places in the list; below 0 if there is none.
type mill struct {
	api.Marks
	before, from [api.MaxBatches]int
	truths       []truth
}

// work returns marks at work, none with an error.
func work(l api.Marks) (*mill, api.Errno) {
	if e := Check(l); e != api.OK {
		return &mill{}, e
	}
	m := &mill{Marks: l}
	for i, x := range m.Batches {
		m.from[i] = place(m.Batches, x.From)
		m.before[i] = -1
		for j, y := range m.Batches[:i] {
			if y.Stone == x.Stone {
				m.before[i] = j
			}
		}
	}
	m.truths = slices.Collect(m.fitting())
	return m, api.OK
}

// choices yields all that can be so of what is open, whether trials are true or not.
func (m *mill) choices() iter.Seq[truth] {
	return func(yield func(truth) bool) {
		var t truth
		var open []*bool
		tell := func(known uint8, so *bool) {
			*so = known == api.KnownYes
			if known == api.KnownOpen {
				open = append(open, so)
			}
		}
		for i, x := range m.Batches {
			tell(x.Clean, &t.clean[i])
			tell(x.Round, &t.round[i])
		}
		for n := range 1 << len(open) {
			for k, so := range open {
				*so = n>>k&1 == 1
			}
			t.held = m.held(t)
			if !yield(t) {
				return
			}
		}
	}
}

// fitting yields the truths.
func (m *mill) fitting() iter.Seq[truth] {
	return func(yield func(truth) bool) {
	next:
		for t := range m.choices() {
			for _, x := range m.Trials {
				if !m.finds(t, x) {
					continue next
				}
			}
			if !yield(t) {
				return
			}
		}
	}
}

// finds reports whether a trial is true.
func (m *mill) finds(t truth, x api.Trial) bool {
	return t.held[place(m.Batches, x.Batch)].has(x.Kind) == x.Found
}

// untrue returns the trials that are not true.
func (m *mill) untrue(t truth) []int {
	var l []int
	for _, x := range m.Trials {
		if !m.finds(t, x) {
			l = append(l, x.Number)
		}
	}
	return l
}

// sources yields the batches of which a batch has got what they hold.
func (m *mill) sources(t truth, batch int) iter.Seq[int] {
	return func(yield func(int) bool) {
		if !t.clean[batch] && m.before[batch] >= 0 && !yield(m.before[batch]) {
			return
		}
		if t.round[batch] && m.from[batch] >= 0 {
			yield(m.from[batch])
		}
	}
}

// held returns what each batch holds.
func (m *mill) held(t truth) held {
	var h held
	for i, x := range m.Batches {
		h[i] = only(x.Kind)
		for j := range m.sources(t, i) {
			h[i] |= h[j]
		}
	}
	return h
}

// known returns what is known of something that is so in a truth, or is not.
func (m *mill) known(so func(truth) bool) uint8 {
	_, yes := first(slices.Values(m.truths), so)
	_, no := first(slices.Values(m.truths), func(t truth) bool { return !so(t) })
	switch {
	case yes && no:
		return api.KnownOpen
	case yes:
		return api.KnownYes
	}
	return api.KnownNo
}

// kinds returns all kinds of which so much is known at least: that a batch holds them.
func (m *mill) kinds(batch int, least uint8) []int {
	var l []int
	for n := range api.MaxKinds {
		kind := n + 1
		if m.known(func(t truth) bool { return t.held[batch].has(kind) }) >= least {
			l = append(l, kind)
		}
	}
	return l
}

// place returns where the batch with an Id is; below 0 if there is none.
func (m *mill) place(id int) int { return place(m.Batches, id) }

func (m *mill) checkBatch(id int) api.Errno { return unless(m.place(id) >= 0, api.ErrNone) }

func (m *mill) checkTruths() api.Errno { return unless(len(m.truths) > 0, api.ErrBad) }
