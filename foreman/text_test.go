package foreman_test

import (
	"slices"
	"strings"
	"testing"

	"oilcake/api"
	"oilcake/foreman"
)

// play checks what comes of a text: the answers, the lines that are not kept, those that are, and the mill.
func play(t *testing.T, m api.Mill, s string, answers []string, denied []int, kept string, does func(m *api.Mill)) {
	t.Helper()
	after, l, e := foreman.Run(m, s)
	want := foreman.Twin(m)
	does(&want)
	if text(after) != text(want) || !slices.Equal(l, answers) || e != api.OK {
		t.Errorf("%.60q %q %d\n%v\n%v", s, l, e, after, want)
	}
	if l, e := foreman.Denied(m, s); !slices.Equal(l, denied) || e != api.OK {
		t.Errorf("%.60q %v %d", s, l, e)
	}
	if k, e := foreman.Kept(m, s); k != kept || e != api.OK {
		t.Errorf("%.60q %q %d", s, k, e)
	}
}

// TestTexts checks P12.4: which lines a text has, and which are kept.
func TestTexts(t *testing.T) {
	is := func(l ...string) []string { return l }
	none := func(*api.Mill) {}
	m := example()
	play(t, m, "", nil, nil, "", none)
	play(t, m, "\n", is("?"), ints(0), "", none)
	play(t, m, " ", is("?"), ints(0), "", none)
	play(t, m, "\n\n", is("?", "?"), ints(0, 1), "", none)
	play(t, m, "press", is("1"), nil, "press\n", none)
	play(t, m, "press\n", is("1"), nil, "press\n", none)
	play(t, m, "press\n\n", is("1", "?"), ints(1), "press\n", none)
	play(t, m, "\npress", is("?", "1"), ints(0), "press\n", none)
	play(t, m, "press\npress", is("1", "1"), nil, "press\npress\n", none)
	play(t, m, "press\r\npress\n", is("?", "1"), ints(0), "press\n", none)
	play(t, m, "press\npres\npresss\npress ", is("1", "?", "?", "?"), ints(1, 2, 3), "press\n", none)
	play(t, m, "warn 2\nmeasure 0", is("-", "-"), nil, "warn 2\nmeasure 0\n", none)
	play(t, m, "hold 3\nnone\nno\nnote\nnote 5 1 1 2 1 1 0\nwell", is("no 6", "?", "?", "?", "no 2", "?"), ints(0, 1, 2, 3, 4, 5), "", none)
	play(t, m, "done 1 0\ndone 1 1\ndone 1 1\ndone 2 0", is("-", "-", "no 41", "-"), ints(2), "done 1 0\ndone 1 1\ndone 2 0\n", did(cold, coldBurst, hot))
	play(t, m, "turn\nturn 1\ngo\nturn 2\ntoday\n", is("no 8", "well", "?", "well", "1"), ints(0, 2), "turn 1\nturn 2\ntoday\n", func(m *api.Mill) {
		m.Watch.Ricks[0].Waited, m.Watch.Ricks[1].Waited, m.Watch.Ricks[2].Waited = 1, 0, 2
	})
	// a file that is read is there for the lines behind it
	play(t, m, "pay 3\nread "+smallFile+"\npay 3\npay 1\nwire", is("0 50", "well", "0 5", "no 6", smallFile), ints(3), "pay 3\nread "+smallFile+"\npay 3\nwire\n", func(m *api.Mill) { m.Roll = smallRoll() })
}

// TestLimits checks P12.4: a text has at most MaxText bytes, and at most MaxLines lines.
func TestLimits(t *testing.T) {
	long := strings.Repeat("-", 19995)
	for _, x := range []struct {
		s     string
		lines int
	}{
		{strings.Repeat("press\n", 60), 60},
		{strings.Repeat("\n", 60), 60},
		{strings.Repeat("press\n", 59) + "press", 60},
		{strings.Repeat("x", 40000), 1},
		{strings.Repeat("x", 39999) + "\n", 1},
		{"read " + long + "\nread " + long[1:], 2},
		{"read " + long + "\n" + strings.Repeat("\n", 59), 60},
	} {
		if _, l, e := foreman.Run(example(), x.s); len(l) != x.lines || e != api.OK {
			t.Error(len(x.s), len(l), e)
		}
		if _, e := foreman.Denied(example(), x.s); e != api.OK {
			t.Error(len(x.s), e)
		}
		if _, e := foreman.Kept(example(), x.s); e != api.OK {
			t.Error(len(x.s), e)
		}
	}
	_, l, _ := foreman.Run(example(), "read "+long+"\nread "+long[1:])
	if !slices.Equal(l, []string{"no 114", "no 114"}) {
		t.Error(l)
	}
}
