package wire_test

import (
	"math/rand"
	"slices"
	"strings"
	"testing"

	"oilcake/api"
	"oilcake/wire"
)

// TestCost checks P11.4: what words cost that are sent so often.
func TestCost(t *testing.T) {
	for _, x := range []struct {
		c     api.Code
		often []int
		want  int
		e     api.Errno
	}{
		{codeA(), ints(5, 2, 2), 13, api.OK},
		{codeA(), ints(2, 2, 5), 16, api.OK},
		{codeA(), ints(0, 0, 0), 0, api.OK},
		{codeA(), ints(1000, 0, 1), 1002, api.OK},
		{code("-"), ints(7), 7, api.OK},
		{code("------", "-----.", "----.-", "----..", "---.--", "---.-.", "---..-"), ints(1000, 1000, 1000, 1000, 1000, 1000, 1000), 42000, api.OK},
		{code("-", "--", "---"), ints(1, 10, 100), 321, api.OK},
		{codeA(), ints(5, 2), 0, api.ErrOften},
		{codeA(), ints(5, 2, 2, 0), 0, api.ErrOften},
		{codeA(), nil, 0, api.ErrOften},
		{codeA(), ints(5, 2, -1), 0, api.ErrOften},
		{codeA(), ints(5, 1001, 1), 0, api.ErrOften},
		{code(), nil, 0, api.ErrCode},
	} {
		if n, e := wire.Cost(x.c, x.often); n != x.want || e != x.e {
			t.Error(x.c, x.often, n, e)
		}
	}
}

// TestBest checks P11.4: the code with the least cost, of several the one with the fewest signs in its first words, of those the one with the first words.
func TestBest(t *testing.T) {
	for _, x := range []struct {
		often []int
		want  string
	}{
		{ints(5, 2, 2, 1), "- .- ..- ..."},
		{ints(0, 0, 3), "-- -. ."},
		{ints(0), "-"},
		{ints(1000), "-"},
		{ints(1, 0), "- ."},
		{ints(0, 0), "- ."},
		{ints(0, 0, 0), "- .- .."},
		{ints(1, 1, 1), "- .- .."},
		{ints(1, 1, 2), "-- -. ."},
		{ints(1, 2, 1), "-- . -."},
		{ints(1, 2, 2), "-- . -."},
		{ints(2, 2, 2, 2), "-- -. .- .."},
		{ints(2, 1, 1, 1), "- .- ..- ..."},
		{ints(1, 1, 1, 2), "-- -. .- .."},
		{ints(1, 1, 1, 3), "-- -.- -.. ."},
		{ints(0, 0, 0, 0, 0, 0, 0), "- .- ..- ...- ....- .....- ......"},
		{ints(1, 1, 1, 1, 1, 1, 1), "-- -.- -.. .-- .-. ..- ..."},
		{ints(0, 0, 0, 0, 0, 0, 1), "-- -.- -..- -...- -....- -..... ."},
		{ints(1, 2, 4, 8, 16, 32, 64), "------ -----. ----. ---. --. -. ."},
		{ints(64, 32, 16, 8, 4, 2, 1), "- .- ..- ...- ....- .....- ......"},
		{ints(1, 1000, 0, 500), "--- . --. -."},
	} {
		c, e := wire.Best(x.often)
		if !slices.Equal(c.Words, strings.Fields(x.want)) || e != api.OK {
			t.Error(x.often, c, e)
		}
	}
}

// placed are the lengths of words, and the first words of a prefix code that have them.
type placed struct {
	lengths []int
	words   []string
}

// allPlaced are all lengths that so many words of a prefix code can have, in order, with the first words that have them: all words are tried, one behind the other.
func allPlaced(n int) []placed {
	var all []placed
	var choose func(lengths []int)
	choose = func(lengths []int) {
		if w := firstWords(lengths, nil); w == nil && len(lengths) > 0 {
			return
		} else if len(lengths) == n {
			all = append(all, placed{slices.Clone(lengths), w})
			return
		}
		for signs := range 6 {
			choose(append(lengths, signs+1))
		}
	}
	choose(nil)
	return all
}

// firstWords are the first words of such lengths that are a prefix code with some others before them; none, if there are none.
func firstWords(lengths []int, before []string) []string {
	if len(before) == len(lengths) {
		return slices.Clone(before)
	}
	for _, w := range allSigns(lengths[len(before)]) {
		longer := append(before, w)
		if prefixFree(longer) {
			if l := firstWords(lengths, longer); l != nil {
				return l
			}
		}
	}
	return nil
}

// leastOf is the first of those that cost the least.
func leastOf(all []placed, often []int) placed {
	best := all[0]
	for _, x := range all {
		if costOf(x.words, often) < costOf(best.words, often) {
			best = x
		}
	}
	return best
}

// complete are all placed words whose share is the whole; of a single word, all. Of others some word could be shorter.
func complete(n int) []placed {
	var all []placed
	var choose func(lengths []int, left int)
	choose = func(lengths []int, left int) {
		if len(lengths) == n {
			if left == 0 || n == 1 {
				all = append(all, placed{slices.Clone(lengths), firstWords(lengths, nil)})
			}
			return
		}
		for signs := 1; signs <= 6; signs++ {
			if 64>>signs <= left {
				choose(append(lengths, signs), left-64>>signs)
			}
		}
	}
	choose(nil, 64)
	return all
}

// someOften is how often orders are sent, at random.
func someOften(r *rand.Rand, n, most int) []int {
	var l []int
	for range n {
		l = append(l, r.Intn(most+1))
	}
	return l
}

// TestBestOfAll checks P11.4: of all prefix codes of a few words none costs less, and none that costs as much comes before; of many words none whose share is the whole.
func TestBestOfAll(t *testing.T) {
	r := rand.New(rand.NewSource(1))
	for n := 1; n <= 3; n++ {
		all := allPlaced(n)
		for range 150 {
			often := someOften(r, n, 1+r.Intn(5))
			if c, e := wire.Best(often); !slices.Equal(c.Words, leastOf(all, often).words) || e != api.OK {
				t.Fatal(often, c, e)
			}
		}
	}
	for n := 4; n <= 7; n++ {
		all := complete(n)
		for range 60 {
			often := someOften(r, n, []int{1, 2, 5, 20, 1000}[r.Intn(5)])
			if c, e := wire.Best(often); !slices.Equal(c.Words, leastOf(all, often).words) || e != api.OK {
				t.Fatal(often, c, e)
			}
		}
	}
}

// leastCost is the least cost, told without words: the two orders that are sent least often end alike but for a sign, and are one until then.
func leastCost(often []int) int {
	if len(often) == 1 {
		return often[0]
	}
	l := slices.Sorted(slices.Values(often))
	cost := 0
	for len(l) > 1 {
		cost += l[0] + l[1]
		l = slices.Sorted(slices.Values(append(l[2:], l[0]+l[1])))
	}
	return cost
}

// TestBestCost checks P11.4 and P11.10: the code that is told is a prefix code, and costs no more than it has to.
func TestBestCost(t *testing.T) {
	r := rand.New(rand.NewSource(2))
	for range 200 {
		often := someOften(r, 1+r.Intn(7), 1+r.Intn(1000))
		c, e := wire.Best(often)
		if e != api.OK || wire.Check(c) != api.OK || len(c.Words) != len(often) || !prefixFree(c.Words) {
			t.Fatal(often, c, e)
		}
		if n, e := wire.Cost(c, often); n != leastCost(often) || n != costOf(c.Words, often) || e != api.OK {
			t.Fatal(often, c, n, e, leastCost(often))
		}
	}
}

// TestNoneBetter checks P11.10: no code that can be read in one way only costs less than the one that is told, and its share is at most 1.
func TestNoneBetter(t *testing.T) {
	r := rand.New(rand.NewSource(3))
	unique := 0
	for unique < 250 {
		c := someCode(r, 1+r.Intn(6), 1+r.Intn(2), 3+r.Intn(4))
		if is, e := wire.Unique(c); !is || e != api.OK {
			continue
		}
		unique++
		if p, e := wire.Share(c); p.Num > p.Den || e != api.OK {
			t.Fatal(c, p, e)
		}
		often := someOften(r, len(c.Words), 10)
		best, e := wire.Best(often)
		n, f := wire.Cost(best, often)
		if m, g := wire.Cost(c, often); n > m || e != api.OK || f != api.OK || g != api.OK {
			t.Fatal(c, often, best, n, m)
		}
	}
}
