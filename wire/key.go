package wire

import (
	"iter"
	"slices"
	"strings"

	"oilcake/api"
)

// Signs are bytes in order: a stroke is before a dot, as strings are compared.
const (
	stroke = "-"
	dot    = "."
)

// key is a code at work.
type key struct{ api.Code }

// prefix reports whether no word begins with another one.
func (k key) prefix() bool {
	for i, w := range k.Words {
		if slices.ContainsFunc(k.Words[:i], func(x string) bool { return clash(w, x) }) {
			return false
		}
	}
	return true
}

// message returns the message of orders, with the error of orders that are not valid.
func (k key) message(orders []int) (string, api.Errno) {
	s := ""
	for _, n := range orders {
		if !within(api.Span{Lo: 1, Hi: len(k.Words)}, n) {
			return "", api.ErrOrders
		}
		s += k.Words[n-1]
		if len(s) > api.MaxSigns {
			return "", api.ErrOrders
		}
	}
	return s, api.OK
}

// counter returns a function that tells how many readings signs have from a place on; it counts no further than to one more than MaxWays. It keeps what it told, for otherwise it would count the same signs for all that can be read before them.
func (k key) counter(s string) func(from int) int {
	told := map[int]int{len(s): 1}
	var count func(from int) int
	count = func(from int) int {
		if n, is := told[from]; is {
			return n
		}
		n := 0
		for _, w := range k.Words {
			if strings.HasPrefix(s[from:], w) {
				n = min(n+count(from+len(w)), api.MaxWays+1)
			}
		}
		told[from] = n
		return n
	}
	return count
}

// readable reports whether signs can be read.
func (k key) readable(s string) bool { return k.counter(s)(0) > 0 }

// readings yields all readings of signs, in order. No word is read behind which the signs cannot be read.
func (k key) readings(s string) iter.Seq[[]int] {
	return func(yield func([]int) bool) {
		count := k.counter(s)
		var read func(from int, l []int) bool
		read = func(from int, l []int) bool {
			if from == len(s) {
				return yield(slices.Clone(l))
			}
			for i, w := range k.Words {
				if strings.HasPrefix(s[from:], w) && count(from+len(w)) > 0 && !read(from+len(w), append(l, i+1)) {
					return false
				}
			}
			return true
		}
		read(0, nil)
	}
}

// mended returns all signs that can be read and differ from some in one sign, in order.
func (k key) mended(s string) []string {
	var l []string
	for i := range len(s) {
		right := s[:i] + other(s[i:i+1]) + s[i+1:]
		if k.readable(right) {
			l = append(l, right)
		}
	}
	slices.Sort(l)
	return l
}

// other returns the sign that a sign is not.
func other(sign string) string {
	if sign == stroke {
		return dot
	}
	return stroke
}
