package foreman

import (
	"iter"
	"strings"
)

const (
	lineFeed = "\n"
	space    = " "
)

// lines yields the lines of a text.
func lines(text string) iter.Seq[string] {
	return func(yield func(string) bool) {
		for line := range strings.Lines(text) {
			if !yield(strings.TrimSuffix(line, lineFeed)) {
				return
			}
		}
	}
}

// countLines returns how many lines a text has.
func countLines(text string) int {
	n := 0
	for range lines(text) {
		n++
	}
	return n
}

// wordOf returns the word with which a line begins.
func wordOf(line string) string {
	word, _, _ := strings.Cut(line, space)
	return word
}

// strange returns the words with which some lines begin, without those that are known.
func strange(lines ...string) map[string]bool {
	words := map[string]bool{}
	for _, line := range lines {
		words[wordOf(line)] = true
	}
	for _, f := range forms() {
		delete(words, f.word)
	}
	return words
}
