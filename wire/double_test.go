package wire_test

import (
	"math/rand"
	"slices"
	"testing"

	"oilcake/api"
	"oilcake/wire"
)

// checkDouble checks what Unique and Double tell of a code: signs, or "" for none.
func checkDouble(t *testing.T, c api.Code, want string) {
	t.Helper()
	s, e := wire.Double(c)
	unique, f := wire.Unique(c)
	none := api.OK
	if want == "" {
		none = api.ErrNone
	}
	if s != want || e != none || unique != (want == "") || f != api.OK {
		t.Fatal(c, s, e, unique, f, want)
	}
}

// TestDouble checks P11.3: the first of the shortest signs that have two readings.
func TestDouble(t *testing.T) {
	for _, x := range []struct {
		c    api.Code
		want string
	}{
		{codeA(), ""},
		{codeB(), ".-."},
		{code("."), ""},
		{code("-", "."), ""},
		{code("-", "--"), "--"},
		{code("--", "-"), "--"},
		{code(".", ".."), ".."},
		{code("--", "---"), "-----"},
		{code("----", "------"), "----------"},
		{code("-----", "------"), "-----------"},
		{code("-", ".", "-."), "-."},
		{code(".-", "-", "."), ".-"},
		{code("-", "-.", ".."), ""},
		{code("-", ".-", ".."), ""},
		{code("-", "-.", ".", ".-"), "-."},
		{code("..", ".", "-", "--"), "--"},
		{code("......", "-", ".", "---"), "---"},
		{code("-.", "-..", ".-", "."), "-.."},
		{code("..-", "..", "-.--", "..-.", "-.-.", "...--", "-..."), "..-..."},
		{code("-.--.", ".-.-", ".-...-", ".-..-", ".--", "--..-.", ".-.--"), ".-.--.--.-.--.--..-..-.--"},
		{code("----", ".-.--", "...-.", ".", "-----.", "...--", ".-.-.-"), ""},
	} {
		checkDouble(t, x.c, x.want)
	}
}

// TestDoubleOfAll checks P11.3 and P11.9: of all short signs none before those that are told has two readings; if none are told, no signs have, however many.
func TestDoubleOfAll(t *testing.T) {
	r := rand.New(rand.NewSource(1))
	for range 300 {
		c := someCode(r, 1+r.Intn(4), 1+r.Intn(3), 3+r.Intn(3))
		all := messages(c, 10)
		want := doubled(c)
		for n := range 11 {
			i := slices.IndexFunc(allSigns(n), func(s string) bool { return len(all[s]) > 1 })
			if i >= 0 {
				if want != allSigns(n)[i] {
					t.Fatal(c, want, allSigns(n)[i])
				}
				break
			}
		}
		checkDouble(t, c, want)
	}
	long, none := 0, 0
	for range 1500 {
		c := someCode(r, 4+r.Intn(4), 2+r.Intn(3), 5+r.Intn(2))
		want := doubled(c)
		checkDouble(t, c, want)
		if want == "" {
			none++
		} else if n, e := wire.Count(c, want); n < 2 || e != api.OK {
			t.Fatal(c, want, n, e)
		}
		if len(want) > 10 {
			long++
		}
	}
	if long < 40 || none < 100 {
		t.Error(long, none)
	}
}

// TestPrefixUnique checks P11.9: each prefix code can be read in one way only, and each of which the words, turned round, are one.
func TestPrefixUnique(t *testing.T) {
	r := rand.New(rand.NewSource(2))
	prefix := 0
	for range 3000 {
		c := someCode(r, 1+r.Intn(7), 1+r.Intn(4), 4+r.Intn(3))
		if is, _ := wire.Prefix(c); !is {
			continue
		}
		prefix++
		checkDouble(t, c, "")
		for i, w := range c.Words {
			signs := []byte(w)
			slices.Reverse(signs)
			c.Words[i] = string(signs)
		}
		checkDouble(t, c, "")
	}
	if prefix < 300 {
		t.Error(prefix)
	}
}

// checkSlip checks what Slip tells of a code: two messages, or "" for none.
func checkSlip(t *testing.T, c api.Code, sent, got string) {
	t.Helper()
	a, b, e := wire.Slip(c)
	none := api.OK
	if sent == "" {
		none = api.ErrNone
	}
	if a != sent || b != got || e != none {
		t.Fatal(c, a, b, e, sent, got)
	}
}

// TestSlip checks P11.5: the first of the shortest messages that differ in one sign.
func TestSlip(t *testing.T) {
	for _, x := range []struct {
		c         api.Code
		sent, got string
	}{
		{codeA(), "--", "-."},
		{codeB(), "-.", ".."},
		{code("."), "", ""},
		{code("-.-.-."), "", ""},
		{code("-", "."), "-", "."},
		{code(".", "-"), "-", "."},
		{code("-", ".."), "", ""},
		{code("-.", "..", "---"), "-.", ".."},
		{code("-", "--"), "", ""},
		{code("--", ".."), "", ""},
		{code("--", ".-", ".."), "--", ".-"},
		{code("--", "-.", ".-"), "--", "-."},
		{code("..-", "--.", "..."), "..-", "..."},
		{code("---", "..."), "", ""},
		{code("-.-.", ".-.-", "--"), "", ""},
		{code("--..--", "....-", "----", "----.", "...-..", "------"), "----....-..--..------", "----....-...-..------"},
		{code(".---.", "-.-.", "-----", "----", ".-..-", "...-.-"), "-----.-.----------", "-----.-..---------"},
		{code("-..-.-", ".-.-.", "--.--", ".-.-", ".-..-"), ".-.-.-..-.-.-.--.--.-.-.-..-.-", ".-.-.-..-.-.-.--..-.-.-.-..-.-"},
	} {
		if want, got := slipped(x.c); want != x.sent || got != x.got {
			t.Error(x.c, want, got)
		}
		checkSlip(t, x.c, x.sent, x.got)
	}
}

// TestSlipOfAll checks P11.5 and P11.12: of all short messages no two that are before those that are told differ in one sign; if none are told, no two do, however long.
func TestSlipOfAll(t *testing.T) {
	r := rand.New(rand.NewSource(3))
	for range 300 {
		c := someCode(r, 1+r.Intn(4), 1+r.Intn(3), 3+r.Intn(3))
		sent, got := slipped(c)
		all := messages(c, 8)
	lengths:
		for n := range 9 {
			for _, s := range allSigns(n) {
				for _, x := range allSigns(n) {
					if len(all[s]) > 0 && len(all[x]) > 0 && differ(s, x) == 1 {
						if s != sent || x != got {
							t.Fatal(c, s, x, sent, got)
						}
						break lengths
					}
				}
			}
		}
		checkSlip(t, c, sent, got)
	}
	long, none := 0, 0
	for range 500 {
		c := someCode(r, 3+r.Intn(3), 3+r.Intn(2), 5+r.Intn(2))
		sent, got := slipped(c)
		checkSlip(t, c, sent, got)
		if sent == "" {
			none++
			continue
		}
		if _, e := wire.Read(c, sent); e != api.OK {
			t.Fatal(c, sent, e)
		}
		if _, e := wire.Read(c, got); e != api.OK || differ(sent, got) != 1 {
			t.Fatal(c, sent, got, e)
		}
		if len(sent) > 8 {
			long++
		}
	}
	if long < 10 || none < 20 {
		t.Error(long, none)
	}
}
