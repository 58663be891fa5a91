package wire_test

import (
	"math/big"
	"math/rand"
	"slices"
	"testing"

	"oilcake/api"
	"oilcake/wire"
)

// TestPrefix checks P11.1: whether no word begins with another one, and the share in lowest terms.
func TestPrefix(t *testing.T) {
	for _, x := range []struct {
		c      api.Code
		prefix bool
		share  api.Part
	}{
		{codeA(), true, part(1, 1)},
		{codeB(), false, part(1, 1)},
		{code("-"), true, part(1, 2)},
		{code("------"), true, part(1, 64)},
		{code("-", "."), true, part(1, 1)},
		{code("-", ".", "--"), false, part(5, 4)},
		{code("--", "-"), false, part(3, 4)},
		{code("-.-", "-.", "--"), false, part(5, 8)},
		{code(".-", ".."), true, part(1, 2)},
		{code("-.....", "-....", "."), false, part(35, 64)},
		{code("-", ".", "--", "-.", ".-", "..", "---"), false, part(17, 8)},
		{code("-", ".-", "..-", "...-", "....-", ".....-", "......"), true, part(1, 1)},
		{code("------", "-----.", "----.-", "----..", "---.--", "---.-.", "---..-"), true, part(7, 64)},
		{code("-----", "-----."), false, part(3, 64)},
	} {
		if is, e := wire.Prefix(x.c); is != x.prefix || e != api.OK {
			t.Error(x.c, is, e)
		}
		if p, e := wire.Share(x.c); p != x.share || e != api.OK {
			t.Error(x.c, p, e)
		}
	}
	r := rand.New(rand.NewSource(1))
	for range 3000 {
		c := someCode(r, 1+r.Intn(7), 1+r.Intn(3), 3+r.Intn(4))
		if is, e := wire.Prefix(c); is != prefixFree(c.Words) || e != api.OK {
			t.Fatal(c, is, e)
		}
		p, e := wire.Share(c)
		if e != api.OK || big.NewRat(int64(p.Num), int64(p.Den)).Cmp(shareOf(c)) != 0 || shareOf(c).Num().Int64() != int64(p.Num) {
			t.Fatal(c, p, e)
		}
	}
}

// TestCodeValid checks P11.1 and R6: codes at the ends of what is allowed are valid, those behind them not.
func TestCodeValid(t *testing.T) {
	for n := range 10 {
		var c api.Code
		for i := range n {
			c.Words = append(c.Words, allSigns(5)[i*3])
		}
		want := api.OK
		if n < 1 || n > 7 {
			want = api.ErrCode
		}
		if e := wire.Check(c); e != want {
			t.Error(n, e)
		}
	}
	for n := range 9 {
		for i, w := range allSigns(n) {
			want := api.OK
			if n < 1 || n > 6 {
				want = api.ErrCode
			}
			if e := wire.Check(code(w)); e != want {
				t.Error(w, e)
			}
			if n > 0 && wire.Check(code("x"+w[1:])) != api.ErrCode || n > 0 && wire.Check(code(w[:i%n]+"0"+w[i%n+1:])) != api.ErrCode {
				t.Error(w)
			}
		}
	}
	for i := range 7 {
		for j := range 7 {
			c := code("-", ".", "--", "-.", ".-", "..", "------")
			if e := wire.Check(c); e != api.OK {
				t.Fatal(e)
			}
			c.Words[i] = c.Words[j]
			if e := wire.Check(c); (e == api.OK) != (i == j) || i != j && e != api.ErrCode {
				t.Error(i, j, e)
			}
		}
	}
}

// TestExamples checks the chapter's examples.
func TestExamples(t *testing.T) {
	if is, _ := wire.Prefix(codeA()); !is {
		t.Error("Prefix of A")
	}
	if s, _ := wire.Send(codeA(), ints(1, 3, 2)); s != ".---." {
		t.Error(s)
	}
	if l, _ := wire.Read(codeA(), ".---."); !slices.Equal(l, ints(1, 3, 2)) {
		t.Error(l)
	}
	if n, _ := wire.Count(codeB(), ".-."); n != 2 {
		t.Error(n)
	}
	if l, _ := wire.Read(codeB(), ".-."); !slices.Equal(l, ints(1, 3)) {
		t.Error(l)
	}
	if n, _ := wire.Cost(codeA(), ints(5, 2, 2)); n != 13 {
		t.Error(n)
	}
	if c, _ := wire.Best(ints(5, 2, 2, 1)); !slices.Equal(c.Words, words("-", ".-", "..-", "...")) {
		t.Error(c)
	}
	if c, _ := wire.Best(ints(0, 0, 3)); !slices.Equal(c.Words, words("--", "-.", ".")) {
		t.Error(c)
	}
	if l, _ := wire.Mend(codeA(), "-.-"); !slices.Equal(l, words("-..")) {
		t.Error(l)
	}
	if s, g, _ := wire.Slip(codeA()); s != "--" || g != "-." {
		t.Error(s, g)
	}
	if s, _ := wire.Write(ints(0, 3, 1)); s != "-..-...-." {
		t.Error(s)
	}
	if s, _ := wire.OfPress(api.Press{}); s != "--" {
		t.Error(s)
	}
}
