package wire

import (
	"iter"
	"strings"

	"oilcake/api"
)

// lengths is how many signs each word of a code has; behind the last word it is 0.
type lengths [api.MaxWords]int

// whole is the share of no signs, counted in shares of words with the most signs.
const whole = 1 << api.MaxWord

func (k key) lengths() lengths {
	var l lengths
	for i, w := range k.Words {
		l[i] = len(w)
	}
	return l
}

// share returns the share of a code.
func (k key) share() api.Part {
	p := api.Part{Num: k.lengths().taken(len(k.Words)), Den: whole}
	for p.Num%2 == 0 && p.Den > 1 {
		p.Num, p.Den = p.Num/2, p.Den/2
	}
	return p
}

// taken returns the share of so many words, in parts of the whole.
func (l lengths) taken(words int) int {
	sum := 0
	for _, n := range l[:words] {
		sum += whole >> n
	}
	return sum
}

// cost returns the cost of words that are sent so often.
func (l lengths) cost(often []int) int {
	sum := 0
	for i, n := range often {
		sum += n * l[i]
	}
	return sum
}

// allLengths yields all lengths that so many words of a prefix code can have, in order: those that have no greater share than the whole.
func allLengths(words int) iter.Seq[lengths] {
	return func(yield func(lengths) bool) {
		var start lengths
		for i := range words {
			start[i] = 1
		}
		for at, again := start, false; !again; again = at == start {
			if at.taken(words) <= whole && !yield(at) {
				return
			}
			at = at.next(words)
		}
	}
}

// next returns the lengths behind some; behind the last ones come the first ones again.
func (l lengths) next(words int) lengths {
	for i := words - 1; i >= 0; i-- {
		if l[i] < api.MaxWord {
			l[i]++
			return l
		}
		l[i] = 1
	}
	return l
}

// code returns the first prefix code whose words have such lengths, if their share is not above the whole. Each word is the first one that is free: so what is free is always pieces (all that begins with some signs) no two of which have the same share, and if all of them have room for a word, one of them has.
func (l lengths) code(words int) api.Code {
	var k key
	for _, signs := range l[:words] {
		k.Words = append(k.Words, k.free(signs))
	}
	return k.Code
}

// free returns the first word of so many signs that begins with none of the words, and that none of them begins with.
func (k key) free(signs int) string {
words:
	for n := range 1 << signs {
		w := word(signs, n)
		for _, x := range k.Words {
			if clash(w, x) {
				continue words
			}
		}
		return w
	}
	return ""
}

// word returns the word of so many signs before which there are so many others.
func word(signs, before int) string {
	w := ""
	for i := range signs {
		if before>>i&1 == 0 {
			w = stroke + w
		} else {
			w = dot + w
		}
	}
	return w
}

// clash reports whether one of two words begins with the other one.
func clash(w, x string) bool { return strings.HasPrefix(w, x) || strings.HasPrefix(x, w) }
