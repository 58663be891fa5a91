package foreman_test

import (
	"math/rand"
	"slices"
	"strings"
	"testing"

	"oilcake/api"
	"oilcake/foreman"
)

// some calls back with random mills, most of them sound.
func some(seed int64, times int, f func(r *rand.Rand, m api.Mill)) {
	r := rand.New(rand.NewSource(seed))
	for i := range times {
		tries := 20
		if i%5 == 0 {
			tries = 1
		}
		f(r, someMill(r, tries))
	}
}

// kept reports whether a line with an answer is kept.
func kept(answer string) bool { return answer != "?" && !strings.HasPrefix(answer, "no") }

// TestModel checks P12.3, P12.7, P12.8 and P12.13 line by line: each of many lines does to a random mill what the chapter's table tells, a sound mill stays sound, what is denied or only asks changes nothing, and no line but VerbDone adds a barrel.
func TestModel(t *testing.T) {
	done := map[string]int{}
	some(1, 800, func(r *rand.Rand, m api.Mill) {
		sound, _ := foreman.Sound(m)
		for range 30 {
			s := someLine(r, m)
			want, told := model(m, s)
			after, answer := line(t, m, s)
			if text(after) != text(want) || answer != told {
				t.Fatal(m, s, answer, told, after, want)
			}
			if is, e := foreman.Sound(after); sound && !is || e != api.OK {
				t.Fatal(m, s, answer, is, e)
			}
			o, e := foreman.Parse(s)
			asks, _ := foreman.Asks(o)
			if (e != api.OK) != (answer == "?") || (asks || !kept(answer)) && !foreman.Same(m, after) {
				t.Fatal(m, s, answer, e, asks)
			}
			if more := barrels(t, after) - barrels(t, m); more != 0 && (o.Verb != api.VerbDone || more != 1) {
				t.Fatal(m, s, answer, more)
			}
			if kept(answer) {
				done[words()[o.Verb]]++
			} else {
				done[answer]++
			}
			m = after
		}
	})
	for _, x := range append(words()[1:], "?", "no 2", "no 6", "no 8", "no 11", "no 21", "no 32", "no 41", "no 42", "no 43", "no 51", "no 60", "no 61", "no 72", "no 73", "no 81", "no 91", "no 114", "no 122") {
		if done[x] < 50 {
			t.Error(x, done[x])
		}
	}
}

// barrels are the turns that were done with something pressed, and did not burst.
func barrels(t *testing.T, m api.Mill) int {
	t.Helper()
	n := 0
	for _, x := range m.Did {
		if x.Sort != api.SortNone && !x.Burst {
			n++
		}
	}
	a, e := foreman.Account(m)
	if e == api.OK && a.Barrels != n || e != api.OK && e != api.ErrBad {
		t.Fatal(m, a, e, n)
	}
	return n
}

// someText is a text of random lines for a mill, as it is from line to line.
func someText(t *testing.T, r *rand.Rand, m api.Mill, lines int) string {
	s := ""
	for range lines {
		next := someLine(r, m)
		if len(s)+len(next) > 30000 {
			break
		}
		m, _ = line(t, m, next)
		s += next + "\n"
	}
	return s
}

// TestText checks P12.4 and P12.10: a text does what its lines do one after the other, and a text in two pieces is a text.
func TestText(t *testing.T) {
	some(5, 120, func(r *rand.Rand, m api.Mill) {
		s := someText(t, r, m, 20)
		want, l := m, []string(nil)
		denied, keeps := []int(nil), ""
		for i, x := range strings.Split(strings.TrimSuffix(s, "\n"), "\n") {
			after, answer := line(t, want, x)
			want, l = after, append(l, answer)
			if kept(answer) {
				keeps += x + "\n"
			} else {
				denied = append(denied, i)
			}
		}
		play(t, m, s, l, denied, keeps, func(m *api.Mill) { *m = want })
		cut := 0
		for range r.Intn(len(l) + 1) {
			cut += strings.Index(s[cut:], "\n") + 1
		}
		half, first, e := foreman.Run(m, s[:cut])
		end, second, f := foreman.Run(half, s[cut:])
		if text(end) != text(want) || !slices.Equal(slices.Concat(first, second), l) || e != api.OK || f != api.OK {
			t.Fatal(m, s, cut, e, f)
		}
	})
}

// TestAgain checks P12.9: a year that is played again by the lines that are kept ends with the same mill, the same barrels and the same pence, with the same answers; all of its lines are kept.
func TestAgain(t *testing.T) {
	some(6, 120, func(r *rand.Rand, m api.Mill) {
		s := someText(t, r, m, 40)
		after, answers, _ := foreman.Run(m, s)
		again, e := foreman.Kept(m, s)
		if e != api.OK {
			t.Fatal(m, s, e)
		}
		year, told, e := foreman.Run(m, again)
		want := slices.DeleteFunc(slices.Clone(answers), func(answer string) bool { return !kept(answer) })
		if !foreman.Same(year, after) || text(year) != text(after) || !slices.Equal(told, want) || e != api.OK {
			t.Fatal(m, s, again, told, want, e)
		}
		a, e := foreman.Account(after)
		b, f := foreman.Account(year)
		if a != b || e != f {
			t.Fatal(m, s, a, e, b, f)
		}
		if l, e := foreman.Denied(m, again); len(l) > 0 || e != api.OK {
			t.Fatal(m, again, l, e)
		}
		if k, e := foreman.Kept(m, again); k != again || e != api.OK {
			t.Fatal(m, again, k, e)
		}
	})
}

// TestSent checks P12.12: what the wire sends, and reads, leaves a sound mill as it was.
func TestSent(t *testing.T) {
	n := 0
	some(7, 300, func(r *rand.Rand, m api.Mill) {
		if sound, _ := foreman.Sound(m); !sound {
			return
		}
		same, signs := line(t, m, "wire")
		after, answer := line(t, same, "read "+signs)
		if answer != "well" || !foreman.Same(m, after) || text(m) != text(after) {
			t.Fatal(m, signs, answer, after)
		}
		other := someMill(r, 20)
		got, answer := line(t, other, "read "+signs)
		other.Roll = m.Roll
		if answer != "well" || text(got) != text(other) {
			t.Fatal(m, signs, answer, got)
		}
		n++
	})
	if n < 150 {
		t.Error(n)
	}
}

// TestLongest checks P12.12 and P12.2 with the longest files that rolls have: they are sent, and read in one line.
func TestLongest(t *testing.T) {
	m := example()
	m.Roll = api.Roll{Men: ints(9996, 9997, 9998, 9999)}
	for i := range 10 {
		x := api.Pressing{Id: 9990 + i, Day: 3652, Press: 6}
		if i < 9 {
			x.To = 9991 + i
		}
		m.Roll.Press.Pressings = append(m.Roll.Press.Pressings, x)
		if i > 5 {
			m.Roll.Shifts = append(m.Roll.Shifts, api.Shift{Pressing: 9990 + i, Pence: 1000000})
		}
	}
	for i := range 30 {
		m.Roll.Press.Weighings = append(m.Roll.Press.Weighings, api.Weighing{Number: 9970 + i, Pressing: 9990 + i/3, Kind: 1 + i%3, Ounces: span(0, 1000000)})
	}
	for i := range 24 {
		m.Roll.Notes = append(m.Roll.Notes, api.Note{Number: 9976 + i, One: thing(9999, 9999, true), Other: thing(9998, 9998, true)})
	}
	if is, e := foreman.Sound(m); !is || e != api.OK {
		t.Fatal(is, e)
	}
	_, signs := line(t, m, "wire")
	bare := example()
	bare.Roll = api.Roll{}
	after, answer := line(t, bare, "read "+signs)
	if answer != "well" || !foreman.Same(after, m) || len(signs) < 6000 {
		t.Error(len(signs), answer)
	}
}
