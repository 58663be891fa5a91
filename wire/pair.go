package wire

import (
	"cmp"
	"iter"
)

// pair is the signs of two messages, as far as they were sent; both are as long.
type pair struct{ sent, got string }

// earlier orders pairs that are as long.
func earlier(x, y pair) int { return cmp.Or(cmp.Compare(x.sent, y.sent), cmp.Compare(x.got, y.got)) }

// state is what is left to be sent of the word of each of two messages, and whether these are two already, by a sign or by their words.
type state struct {
	sent, got string
	two       bool
}

// double returns the shortest signs that have two readings, as both of a pair, and whether there are any. The first words of these readings differ, for otherwise the signs behind them would be shorter; all signs are the same.
func (k key) double() (pair, bool) {
	starts := map[state]pair{}
	for i, w := range k.Words {
		for _, x := range k.Words[:i] {
			starts[state{w, x, true}] = pair{}
		}
	}
	return k.ends(starts)
}

// slip returns the shortest messages that differ in just one sign, of several the first ones, and whether there are any.
func (k key) slip() (pair, bool) { return k.ends(map[state]pair{{}: {}}) }

// ends returns the shortest signs, of several the first ones, with which two messages end that began with some states, and whether there are any. The first signs that lead to a state lead on to the first ones, so no others are kept; a state that was reached by fewer signs is not reached again.
func (k key) ends(ahead map[state]pair) (pair, bool) {
	reached := map[state]bool{}
	for len(ahead) > 0 {
		next := map[state]pair{}
		for s, p := range ahead {
			reached[s] = true
			for to, longer := range k.steps(s, p) {
				if q, is := next[to]; !is || earlier(longer, q) < 0 {
					next[to] = longer
				}
			}
		}
		if p, is := next[state{two: true}]; is {
			return p, true
		}
		for s := range reached {
			delete(next, s)
		}
		ahead = next
	}
	return pair{}, false
}

// steps yields all states to which one sign more of both messages leads, with these signs. Two messages stay two by what made them so: behind that their signs are the same.
func (k key) steps(s state, p pair) iter.Seq2[state, pair] {
	return func(yield func(state, pair) bool) {
		for _, sent := range k.next(s.sent) {
			for _, got := range k.next(s.got) {
				wrong := sent[0] != got[0]
				if wrong && s.two {
					continue
				}
				longer := pair{p.sent + sent[:1], p.got + got[:1]}
				if !yield(state{sent[1:], got[1:], s.two || wrong}, longer) {
					return
				}
			}
		}
	}
}

// next returns what can be sent next: what is left of a word, or else any word.
func (k key) next(left string) []string {
	if left != "" {
		return []string{left}
	}
	return k.Words
}
