package wire_test

import (
	"maps"
	"math/rand"
	"slices"
	"strings"
	"testing"

	"oilcake/api"
	"oilcake/wire"
)

// TestSend checks P11.2: the message of orders, which are valid with at most 250 signs.
func TestSend(t *testing.T) {
	seven := code("-", ".", "--", "-.", ".-", "..", "--....")
	for _, x := range []struct {
		c      api.Code
		orders []int
		want   string
		e      api.Errno
	}{
		{codeA(), nil, "", api.OK},
		{codeA(), []int{}, "", api.OK},
		{codeA(), ints(1), ".", api.OK},
		{codeA(), ints(3, 2, 1), "---..", api.OK},
		{seven, ints(7, 1, 7), "--....---....", api.OK},
		{code("."), slices.Repeat(ints(1), 250), strings.Repeat(".", 250), api.OK},
		{code("."), slices.Repeat(ints(1), 251), "", api.ErrOrders},
		{code("-", ".."), slices.Repeat(ints(2), 125), strings.Repeat(".", 250), api.OK},
		{code("-", ".."), append(slices.Repeat(ints(2), 125), 1), "", api.ErrOrders},
		{code("-", "....--"), append(slices.Repeat(ints(2), 41), 1, 1, 1, 1), strings.Repeat("....--", 41) + "----", api.OK},
		{code("-", "....--"), slices.Repeat(ints(2), 42), "", api.ErrOrders},
		{codeA(), ints(0), "", api.ErrOrders},
		{codeA(), ints(4), "", api.ErrOrders},
		{codeA(), ints(1, 2, 3, -1), "", api.ErrOrders},
		{seven, ints(7, 8), "", api.ErrOrders},
		{code("."), ints(2), "", api.ErrOrders},
	} {
		if s, e := wire.Send(x.c, x.orders); s != x.want || e != x.e {
			t.Error(x.c, x.orders, s, e)
		}
	}
}

// TestReadings checks P11.2, P11.8 and P11.15: of all short signs how many readings there are, and the first one; they are those that begin with each word, for what is left; and what is sent is read.
func TestReadings(t *testing.T) {
	r := rand.New(rand.NewSource(1))
	for range 60 {
		c := someCode(r, 1+r.Intn(5), 1, 3+r.Intn(2))
		all := messages(c, 8)
		unique, e := wire.Unique(c)
		if e != api.OK {
			t.Fatal(c, e)
		}
		for n := range 9 {
			for _, s := range allSigns(n) {
				l := all[s]
				if n, e := wire.Count(c, s); n != len(l) || e != api.OK {
					t.Fatal(c, s, n, e, len(l))
				}
				read, e := wire.Read(c, s)
				switch {
				case len(l) == 0 && (e != api.ErrNone || len(read) > 0):
					t.Fatal(c, s, read, e)
				case len(l) > 0 && (e != api.OK || !slices.Equal(read, l[0])):
					t.Fatal(c, s, read, e, l[0])
				case len(l) > 1 && unique:
					t.Fatal(c, s, l)
				}
				if s != "" && len(l) != rests(t, c, s) {
					t.Fatal(c, s, len(l))
				}
				for _, orders := range l {
					if sent, e := wire.Send(c, orders); sent != s || e != api.OK {
						t.Fatal(c, orders, sent, e)
					}
				}
			}
		}
	}
}

// rests is how many readings have what is left of signs behind each word that they begin with.
func rests(t *testing.T, c api.Code, s string) int {
	sum := 0
	for _, w := range c.Words {
		if left, is := strings.CutPrefix(s, w); is {
			n, e := wire.Count(c, left)
			if e != api.OK {
				t.Fatal(c, left, e)
			}
			sum += n
		}
	}
	return sum
}

// TestLong checks P11.2, P11.8 and R5: long messages are read, and counted to a million.
func TestLong(t *testing.T) {
	short := code("-", "--")
	near := code("-.", "---", ".-", "-", "--.", ".", "..-")
	million := code("..-", "..", "-", ".", "-..")
	dots := strings.Repeat(".", 250)
	for _, x := range []struct {
		c    api.Code
		s    string
		want int
		e    api.Errno
	}{
		{short, strings.Repeat("-", 28), 514229, api.OK},
		{short, strings.Repeat("-", 29), 832040, api.OK},
		{short, strings.Repeat("-", 30), 0, api.ErrMany},
		{short, strings.Repeat("-", 31), 0, api.ErrMany},
		{short, strings.Repeat("-", 250), 0, api.ErrMany},
		{short, strings.Repeat("-", 249) + ".", 0, api.OK},
		{code("-", ".", "---"), "." + strings.Repeat("-", 249), 0, api.ErrMany},
		{code("-", "--", "---", "----", "-----", "------"), strings.Repeat("-", 250), 0, api.ErrMany},
		{million, "-...----....-----.......-.---...---...---..---...-.-.", 1000000, api.OK},
		{near, "-.--.--..-............------.-..-.--..--.-", 0, api.ErrMany},
		{code("."), dots, 1, api.OK},
		{code(".", "-"), dots, 1, api.OK},
		{code(".."), dots, 1, api.OK},
		{code("..."), dots, 0, api.OK},
	} {
		if n, e := wire.Count(x.c, x.s); n != x.want || e != x.e {
			t.Error(x.c, x.s, n, e)
		}
	}
	if l, e := wire.Read(short, strings.Repeat("-", 250)); !slices.Equal(l, slices.Repeat(ints(1), 250)) || e != api.OK {
		t.Error(l, e)
	}
	if l, e := wire.Read(code("------", "-----", "----", "--", "---"), strings.Repeat("-", 250)); !slices.Equal(l, append(slices.Repeat(ints(1), 41), 3)) || e != api.OK {
		t.Error(l, e)
	}
	if l, e := wire.Read(short, strings.Repeat("-", 249)+"."); len(l) > 0 || e != api.ErrNone {
		t.Error(l, e)
	}
}

// TestMillion checks P11.2: one reading more than a million is too many, by what is counted of the signs behind each word.
func TestMillion(t *testing.T) {
	c := code("-.", "---", ".-", "-", "--.", ".", "..-")
	s := "-.--.--..-............------.-..-.--..--.-"
	counts := []int{1}
	for i := len(s) - 1; i >= 0; i-- {
		n := 0
		for _, w := range c.Words {
			if strings.HasPrefix(s[i:], w) {
				n += counts[len(s)-i-len(w)]
			}
		}
		counts = append(counts, n)
		want, e := n, api.OK
		if n > 1000000 {
			want, e = 0, api.ErrMany
		}
		if got, f := wire.Count(c, s[i:]); got != want || f != e {
			t.Error(s[i:], got, f, n)
		}
	}
	if counts[len(s)] != 1000001 {
		t.Error(counts[len(s)])
	}
}

// TestSent checks P11.8: long random messages have readings, which in a code that can be read in one way only are what was sent.
func TestSent(t *testing.T) {
	r := rand.New(rand.NewSource(2))
	ones := 0
	for range 2000 {
		c := someCode(r, 1+r.Intn(7), 1+r.Intn(3), 3+r.Intn(4))
		unique, _ := wire.Unique(c)
		var orders []int
		for range r.Intn(42) {
			orders = append(orders, 1+r.Intn(len(c.Words)))
		}
		s, e := wire.Send(c, orders)
		if e != api.OK {
			t.Fatal(c, orders, e)
		}
		l, e := wire.Read(c, s)
		if again, f := wire.Send(c, l); again != s || e != api.OK || f != api.OK {
			t.Fatal(c, orders, l, e, f)
		}
		n, e := wire.Count(c, s)
		if e == api.OK && n < 1 || slices.Compare(l, orders) > 0 {
			t.Fatal(c, orders, l, n, e)
		}
		if unique {
			ones++
			if n != 1 || e != api.OK || !slices.Equal(l, orders) {
				t.Fatal(c, orders, l, n, e)
			}
		}
	}
	if ones < 100 {
		t.Error(ones)
	}
}

// TestMend checks P11.5: of all short signs all that can be read and differ in one sign, in order.
func TestMend(t *testing.T) {
	for _, x := range []struct {
		c    api.Code
		s    string
		want []string
		e    api.Errno
	}{
		{codeA(), "-.-", words("-.."), api.OK},
		{codeA(), "-", words("."), api.OK},
		{codeA(), ".", nil, api.ErrNone},
		{codeA(), "", nil, api.ErrNone},
		{codeA(), "--", words("-."), api.OK},
		{codeA(), "..", words("-."), api.OK},
		{codeA(), "...", words("-..", ".-."), api.OK},
		{codeA(), "--.", words("-..", ".-."), api.OK},
		{code("."), "..", nil, api.ErrNone},
		{code("."), ".-.", words("..."), api.OK},
		{code("."), "--.", nil, api.ErrNone},
		{code("."), strings.Repeat(".", 249) + "-", words(strings.Repeat(".", 250)), api.OK},
		{code("-"), "." + strings.Repeat("-", 249), words(strings.Repeat("-", 250)), api.OK},
		{code("-", "."), "-.", words("--", ".."), api.OK},
	} {
		if l, e := wire.Mend(x.c, x.s); !slices.Equal(l, x.want) || e != x.e {
			t.Error(x.c, x.s, l, e)
		}
	}
	r := rand.New(rand.NewSource(3))
	for range 80 {
		c := someCode(r, 1+r.Intn(5), 1+r.Intn(2), 3+r.Intn(2))
		all := messages(c, 7)
		for n := range 8 {
			for _, s := range allSigns(n) {
				var want []string
				for i := range s {
					if right := flip(s, i); len(all[right]) > 0 {
						want = append(want, right)
					}
				}
				slices.Sort(want)
				l, e := wire.Mend(c, s)
				if !slices.Equal(l, want) || e == api.OK && len(l) == 0 || e != api.OK && (e != api.ErrNone || len(l) > 0) {
					t.Fatal(c, s, l, e, want)
				}
			}
		}
	}
}

// TestMended checks P11.11: whatever sign of a message is wrong, what was sent is told.
func TestMended(t *testing.T) {
	r := rand.New(rand.NewSource(4))
	for range 100 {
		c := someCode(r, 1+r.Intn(7), 1, 6)
		var orders []int
		for range 1 + r.Intn(30) {
			orders = append(orders, 1+r.Intn(len(c.Words)))
		}
		s, e := wire.Send(c, orders)
		if e != api.OK {
			t.Fatal(c, orders, e)
		}
		for i := range s {
			l, e := wire.Mend(c, flip(s, i))
			if e != api.OK || !slices.Contains(l, s) || !slices.IsSorted(l) {
				t.Fatal(c, s, i, l, e)
			}
		}
	}
}

// TestNoSlip checks P11.12: if no two messages are told, what one wrong sign makes of a message can never be read; otherwise not if it has fewer signs than those.
func TestNoSlip(t *testing.T) {
	r := rand.New(rand.NewSource(5))
	none := 0
	for range 400 {
		c := someCode(r, 1+r.Intn(3), 2+r.Intn(2), 4+r.Intn(3))
		sent, _, e := wire.Slip(c)
		least := len(sent)
		if e == api.ErrNone {
			none++
			least = 100
		}
		for _, s := range slices.Sorted(maps.Keys(messages(c, 14))) {
			if l, e := wire.Mend(c, s); len(s) < least && e != api.ErrNone {
				t.Fatal(c, s, l, e, least)
			}
		}
	}
	if none < 50 {
		t.Error(none)
	}
}
