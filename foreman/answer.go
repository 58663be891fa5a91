package foreman

import (
	"strconv"
	"strings"

	"oilcake/api"
)

const (
	unknown = "?"
	no      = "no"
)

// keeps reports whether a line with an answer is kept.
func keeps(answer string) bool { return answer != unknown && !strings.HasPrefix(answer, no) }

// denied is thrown where it is seen that an order is denied.
type denied struct{ by api.Errno }

func (x denied) answer() string { return no + space + strconv.Itoa(int(x.by)) }

// deny throws an error, if it is one.
func deny(e api.Errno) {
	if e != api.OK {
		panic(denied{e})
	}
}

// answer tells what is answered to an order that was done.
type answer func() string

func well() string { return "well" }

// numbers answers numbers.
func numbers(l ...int) answer {
	return func() string {
		if len(l) == 0 {
			return "-"
		}
		var words []string
		for _, n := range l {
			words = append(words, strconv.Itoa(n))
		}
		return strings.Join(words, space)
	}
}

// number answers a number, list several, span the ends of a span, and signs signs; an error denies.
func number(n int, e api.Errno) answer { return list([]int{n}, e) }

func list(l []int, e api.Errno) answer {
	deny(e)
	return numbers(l...)
}

func span(s api.Span, e api.Errno) answer {
	deny(e)
	return numbers(s.Lo, s.Hi)
}

func signs(s string, e api.Errno) answer {
	deny(e)
	return func() string { return s }
}
