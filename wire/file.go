package wire

import (
	"strconv"
	"strings"

	"oilcake/api"
)

// noFile is thrown where it is seen that signs are no file, or not that of what is read from it.
type noFile struct{}

func need(so bool) {
	if !so {
		panic(noFile{})
	}
}

// unfiled returns what is read from a file, with ErrFile if that was thrown, or unless all of it was read and is valid.
func unfiled[T any](s string, read func(t *tape) T, check func(T) api.Errno) (x T, e api.Errno) {
	defer func() {
		switch thrown := recover().(type) {
		case nil:
		case noFile:
			e = api.ErrFile
		default:
			panic(thrown)
		}
	}()
	t := &tape{numbers(s)}
	y := read(t)
	need(len(t.left) == 0 && check(y) == api.OK)
	return y, api.OK
}

// file returns the file of numbers that can be written.
func file(l []int) string {
	s := ""
	for _, n := range l {
		s += written(n)
	}
	return s
}

// written returns a number as it is written.
func written(n int) string {
	digits := strconv.FormatInt(int64(n)+1, 2)
	s := strings.Repeat(dot, len(digits)-1)
	for _, digit := range digits {
		if digit == '1' {
			s += stroke
		} else {
			s += dot
		}
	}
	return s
}

// numbers returns all numbers of a file.
func numbers(s string) []int {
	var l []int
	for s != "" {
		need(len(l) < api.MaxNumbers)
		dots := len(s) - len(strings.TrimLeft(s, dot))
		need(dots <= len(s)-dots-1)
		l = append(l, digits(s[dots:2*dots+1])-1)
		s = s[2*dots+1:]
	}
	return l
}

// digits returns the number of digits of which the first one is a stroke, if they are digits.
func digits(s string) int {
	n := 0
	for _, sign := range s {
		n *= 2
		switch sign {
		case '-':
			n++
		case '.':
		default:
			panic(noFile{})
		}
		need(n <= api.MaxNumber+1)
	}
	return n
}

// tape is the numbers of a file that are still to be read.
type tape struct{ left []int }

func (t *tape) next() int {
	need(len(t.left) > 0)
	n := t.left[0]
	t.left = t.left[1:]
	return n
}

func (t *tape) rest() []int {
	l := t.left
	t.left = nil
	return l
}

// many reads how many things there are, and these.
func many[T any](t *tape, read func() T) []T {
	var l []T
	for range t.next() {
		l = append(l, read())
	}
	return l
}
