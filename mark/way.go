package mark

import "slices"

// way returns how a kind can have got into a batch, and whether it can.
func (m *mill) way(batch, kind int) (group, bool) {
	holds := func(t truth) bool { return t.held[batch].has(kind) }
	tell := func(t truth) group { return m.wayIn(t, batch, kind) }
	return foremost(told(kept(slices.Values(m.truths), holds), tell), shorter)
}

// wayIn returns how a kind that a batch holds in a truth has got into it.
func (m *mill) wayIn(t truth, batch, kind int) group {
	if m.Batches[batch].Kind == kind {
		return group{batch}
	}
	holds := func(i int) bool { return t.held[i].has(kind) }
	tell := func(i int) group { return m.wayIn(t, i, kind) }
	before, _ := foremost(told(kept(m.sources(t, batch), holds), tell), shorter)
	return append(before, batch)
}
