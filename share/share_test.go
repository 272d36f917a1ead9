package share_test

import (
	"math"
	"slices"
	"strconv"
	"strings"
	"testing"

	"sinew/api"
	"sinew/check"
	"sinew/share"
)

// numbers are those of a text.
func numbers(s string) (l []int) {
	for _, word := range strings.Fields(s) {
		n, err := strconv.Atoi(word)
		if err != nil {
			panic(err)
		}
		l = append(l, n)
	}
	return l
}

// text are numbers with blanks between.
func text(l []int) string {
	var words []string
	for _, n := range l {
		words = append(words, strconv.Itoa(n))
	}
	return strings.Join(words, " ")
}

// atomsOf are atoms of a text, divided by commas: the variables' numbers, a colon and the size.
func atomsOf(s string) (atoms [][]int, sizes []int) {
	for _, one := range strings.Split(s, ",") {
		if atom, size, ok := strings.Cut(one, ":"); ok {
			atoms, sizes = append(atoms, numbers(atom)), append(sizes, numbers(size)...)
		}
	}
	return atoms, sizes
}

// shared must be what Shares answers, spelt out.
func shared(t *testing.T, workers, vars int, s, want string) {
	t.Helper()
	atoms, sizes := atomsOf(s)
	l, e := share.Shares(workers, vars, atoms, sizes)
	if text(l) != want || e != api.OK {
		t.Errorf("Shares(%d, %d, %s): %v, %d, want %s", workers, vars, s, l, e, want)
	}
	if by := lightestBy(grownShares(workers, vars), atoms, sizes); text(by) != want {
		t.Errorf("Shares(%d, %d, %s): the plain reading is %v, not %s", workers, vars, s, by, want)
	}
}

// refusedShares is what Shares must answer: ErrArg, and nothing beside it.
func refusedShares(t *testing.T, workers, vars int, atoms [][]int, sizes []int) {
	t.Helper()
	if l, e := share.Shares(workers, vars, atoms, sizes); len(l) != 0 || e != api.ErrArg {
		t.Errorf("Shares(%d, %d, %v, %v): %v, %d, want ErrArg", workers, vars, atoms, sizes, l, e)
	}
}

// takenShares is what Shares must answer: no error, and a share for each variable.
func takenShares(t *testing.T, workers, vars int, atoms [][]int, sizes []int) {
	t.Helper()
	if l, e := share.Shares(workers, vars, atoms, sizes); len(l) != vars || e != api.OK {
		t.Errorf("Shares(%d, %d, %v, %v): %v, %d, want %d shares", workers, vars, atoms, sizes, l, e, vars)
	}
}

// outside are numbers that are too great or too small, whatever is asked for.
var outside = []int{math.MinInt, math.MinInt32, -1 << 32, -65, -2, -1, 1 << 32, 1<<32 + 1, math.MaxInt32, math.MaxInt}

// Sh1: 1 to 64 workers.
func TestSharesWorkers(t *testing.T) {
	atoms, sizes := [][]int{{0, 1}}, []int{10}
	for _, n := range append([]int{0, 65, 66, 128}, outside...) {
		refusedShares(t, n, 2, atoms, sizes)
		refusedShares(t, n, 0, nil, nil)
	}
	for n := 1; n <= 64; n++ {
		takenShares(t, n, 2, atoms, sizes)
		takenShares(t, n, 0, nil, nil)
	}
}

// Sh1: 0 to 6 variables.
func TestSharesVars(t *testing.T) {
	for _, n := range append([]int{7, 8, 16, 64}, outside...) {
		refusedShares(t, 8, n, nil, nil)
		refusedShares(t, 8, n, [][]int{{0}}, []int{1})
	}
	for n := range 7 {
		takenShares(t, 8, n, nil, nil)
		takenShares(t, 64, n, [][]int{upTo(n)}, []int{9})
	}
}

// Sh1: as many sizes as atoms, and at most 12.
func TestSharesSizesAndAtoms(t *testing.T) {
	for atoms := range 16 {
		for sizes := range 16 {
			ask := refusedShares
			if atoms == sizes && atoms <= 12 {
				ask = takenShares
			}
			ask(t, 4, 2, slices.Repeat([][]int{{1}}, atoms), slices.Repeat([]int{3}, sizes))
			ask(t, 4, 0, make([][]int, atoms), make([]int, sizes))
		}
	}
}

// Sh1: a size is 0 to 2^20, at whatever place it stands.
func TestSharesSize(t *testing.T) {
	atoms := [][]int{{0}, {1}, {0, 1}}
	for place := range 3 {
		sizes := []int{5, 6, 7}
		for _, n := range append([]int{1<<20 + 1, 1<<20 + 2, 1 << 21}, outside...) {
			sizes[place] = n
			refusedShares(t, 4, 2, atoms, sizes)
		}
		for _, n := range []int{0, 1, 1<<20 - 1, 1 << 20} {
			sizes[place] = n
			takenShares(t, 4, 2, atoms, sizes)
		}
	}
	twelve := slices.Repeat([]int{1 << 20}, 12)
	shared(t, 64, 6, strings.Repeat("0 1 2 3 4 5: 1048576,", 12), "1 1 1 1 1 64")
	takenShares(t, 1, 0, make([][]int, 12), twelve)
	twelve[11]++
	refusedShares(t, 1, 0, make([][]int, 12), twelve)
}

// Sh1: an atom's numbers are 0 to vars less 1, at whatever place they stand, also where there are no variables.
func TestSharesNumbers(t *testing.T) {
	for vars := range 7 {
		for _, n := range append([]int{vars, vars + 1, 7, 64}, outside...) {
			refusedShares(t, 8, vars, [][]int{{n}}, []int{1})
			refusedShares(t, 8, vars, [][]int{{n}}, []int{0})
			refusedShares(t, 8, vars, [][]int{nil, upTo(vars), append(upTo(vars), n)}, []int{1, 1, 1})
			refusedShares(t, 8, vars, [][]int{append([]int{n}, upTo(vars)...), nil}, []int{1, 1})
		}
		for n := range vars {
			takenShares(t, 8, vars, [][]int{{n}}, []int{1})
		}
		takenShares(t, 8, vars, [][]int{nil, {}}, []int{1, 0})
	}
}

// Sh1: shares where nothing hangs on them.
func TestSharesOfNothing(t *testing.T) {
	shared(t, 64, 0, "", "")
	shared(t, 1, 0, "", "")
	shared(t, 4, 0, ":5, :0, :1048576", "")
	shared(t, 64, 1, "", "1")
	shared(t, 64, 3, "", "1 1 1")
	shared(t, 64, 6, "", "1 1 1 1 1 1")
	shared(t, 64, 2, ":100", "1 1")
	shared(t, 64, 2, "0 1:0, 0:0, 1:0", "1 1")
	shared(t, 64, 2, "0 1:1, 0:1, 1:1", "1 1")
	shared(t, 1, 6, "0 1 2 3 4 5:1048576", "1 1 1 1 1 1")
	// Beside what hangs on them.
	shared(t, 8, 3, ":100, 1:8, 0:0, 2 2:1", "1 8 1")
}

// Sh1: a variable counts once in an atom, however often it stands there.
func TestSharesOnce(t *testing.T) {
	// 15 and 25 of 4 2, 30 and 13 of 2 4.
	shared(t, 8, 2, "0:60, 1:50", "4 2")
	shared(t, 8, 2, "0 0:60, 1:50", "4 2")
	shared(t, 8, 2, "0 0 0 0:60, 1 1:50", "4 2")
	shared(t, 8, 2, "0 1 0 1 1:60, 1:50", "1 8")
	// One atom twice is two.
	shared(t, 8, 2, "0:60, 1:50, 1:50", "2 4")
}

// Sh1: what is divided is rounded up, each atom by itself.
func TestSharesRounded(t *testing.T) {
	shared(t, 4, 1, "0:2", "2")
	shared(t, 64, 1, "0:5", "5")
	shared(t, 64, 1, "0:63", "63")
	shared(t, 64, 1, "0:64", "64")
	// 2 of 33 parts as of 64; 3 of 32.
	shared(t, 64, 1, "0:65", "33")
	// 2 of 3 parts as of 5.
	shared(t, 5, 1, "0:6", "3")
	shared(t, 6, 1, "0:6", "6")
	shared(t, 60, 1, "0:1048576", "60")
	// 1 and 1 of 3 parts; all 6 together, rounded up once, would be 2 of 3 to 5 parts as well, and 1 of 6.
	shared(t, 6, 1, "0:3, 0:3", "3")
	shared(t, 6, 1, "0:2, 0:2, 0:2", "2")
	shared(t, 6, 1, "0:2, 0:3, 0:4", "4")
	// All sizes 1 to 12: 42 of 2 parts, 13 of 11, 12 of 12 and of more.
	shared(t, 2, 1, "0:1, 0:2, 0:3, 0:4, 0:5, 0:6, 0:7, 0:8, 0:9, 0:10, 0:11, 0:12", "2")
	shared(t, 11, 1, "0:1, 0:2, 0:3, 0:4, 0:5, 0:6, 0:7, 0:8, 0:9, 0:10, 0:11, 0:12", "11")
	shared(t, 64, 1, "0:1, 0:2, 0:3, 0:4, 0:5, 0:6, 0:7, 0:8, 0:9, 0:10, 0:11, 0:12", "12")
}

// Sh1: of several with the least load those whose first share is least, then the second one, and so on.
func TestSharesAlike(t *testing.T) {
	shared(t, 4, 2, "0 1:16", "1 4")
	shared(t, 8, 3, "0 1 2:8", "1 1 8")
	shared(t, 8, 3, "0 1 2:7", "1 1 7")
	shared(t, 64, 6, "0 1 2 3 4 5:64", "1 1 1 1 1 64")
	shared(t, 4, 3, "0 1:4, 1 2:4", "1 4 1")
	shared(t, 4, 3, "0 1 2:4, 0:4", "4 1 1")
	shared(t, 8, 2, "0:64, 1:64", "2 4")
	shared(t, 4, 4, "0 1:4, 2 3:4", "1 2 1 2")
	shared(t, 4, 4, "0 2:4, 1 3:4", "1 1 2 2")
	shared(t, 4, 4, "0 3:4, 1 2:4", "1 1 2 2")
	// 1 4 1 4 1 4 is as good as 2 2 2 2 2 2.
	shared(t, 64, 6, "0 1:1000, 1 2:1000, 2 3:1000, 3 4:1000, 4 5:1000, 5 0:1000", "1 4 1 4 1 4")
}

// Sh1: workers with many divisors, primes, and what their product is not to be filled up by.
func TestSharesWorkersKinds(t *testing.T) {
	shared(t, 60, 3, "0:1000, 1:1000, 2:1000", "3 4 5")
	shared(t, 64, 3, "0:1000, 1:1000, 2:1000", "4 4 4")
	shared(t, 64, 2, "0:1000, 1:1000", "8 8")
	shared(t, 63, 2, "0:1000, 1:1000", "7 9")
	shared(t, 64, 6, "0:1000, 1:1000, 2:1000, 3:1000, 4:1000, 5:1000", "2 2 2 2 2 2")
	shared(t, 63, 6, "0:1000, 1:1000, 2:1000, 3:1000, 4:1000, 5:1000", "1 2 2 2 2 3")
	// 10 and 2 of 1 7; 5 and 4 of 2 3, whose product is less.
	shared(t, 7, 2, "0:10, 1:10", "2 3")
	shared(t, 61, 1, "0:1048576", "61")
	shared(t, 61, 2, "0 1:1048576", "1 61")
	shared(t, 61, 2, "0:6000, 1:6000", "6 10")
	shared(t, 2, 6, "3:9, 4:8", "1 1 1 1 2 1")
	shared(t, 2, 6, "3:9, 4:7", "1 1 1 2 1 1")
	shared(t, 2, 6, "3:7, 4:9", "1 1 1 1 2 1")
	shared(t, 3, 6, "3:9, 4:8", "1 1 1 3 1 1")
	// A great atom draws the parts to its variables.
	shared(t, 16, 3, "0 1:10, 1 2:10, 2 0:100000", "4 1 4")
	shared(t, 16, 3, "0 1:10, 1 2:100000, 2 0:10", "1 4 4")
	shared(t, 16, 3, "0 1:100000, 1 2:10, 2 0:10", "4 4 1")
	shared(t, 6, 2, "0 1:60, 1:60", "1 6")
	shared(t, 6, 2, "0 1:60, 0:60", "6 1")
	shared(t, 1, 2, "0 1:5", "1 1")
}

// cellsAre is what Cells must answer.
func cellsAre(t *testing.T, shares []int, want int) {
	t.Helper()
	if n, e := share.Cells(shares); n != want || e != api.OK {
		t.Errorf("Cells(%v): %d, %d, want %d", shares, n, e, want)
	}
	if !mayBeBy(shares) {
		t.Errorf("Cells(%v): not by the plain reading", shares)
	}
	if l, e := share.Route(shares, nil, nil); !slices.Equal(l, upTo(want)) || e != api.OK {
		t.Errorf("Route(%v): %v, %d, want all cells", shares, l, e)
	}
}

// mayNotBe is shares that Cells and Route must refuse.
func mayNotBe(t *testing.T, shares []int) {
	t.Helper()
	if n, e := share.Cells(shares); n != 0 || e != api.ErrArg {
		t.Errorf("Cells(%.200v): %d, %d, want ErrArg", shares, n, e)
	}
	if mayBeBy(shares) {
		t.Errorf("Cells(%.200v): may be by the plain reading", shares)
	}
	refusedRoute(t, shares, nil, nil)
	refusedRoute(t, shares, []int{0}, []string{"ann"})
}

// Sh2: 1 to 64 parts a variable.
func TestCellsParts(t *testing.T) {
	for n := 1; n <= 64; n++ {
		cellsAre(t, []int{n}, n)
		cellsAre(t, []int{1, n, 1}, n)
	}
	for _, n := range append([]int{0, 65, 66, 128, 4096}, outside...) {
		mayNotBe(t, []int{n})
		mayNotBe(t, []int{1, n, 1})
		mayNotBe(t, []int{n, n})
		mayNotBe(t, []int{2, n})
		mayNotBe(t, []int{n, 2})
	}
}

// Sh2: a product of at most 64, however great it is.
func TestCellsProduct(t *testing.T) {
	cellsAre(t, nil, 1)
	cellsAre(t, []int{}, 1)
	for s, want := range map[string]int{"8 8": 64, "2 32": 64, "32 2": 64, "64 1 1": 64, "1 64": 64, "4 4 4": 64, "2 2 2 2 2 2": 64, "7 9": 63, "3 3 7": 63, "2 3": 6, "3 4 5": 60, "1 1 1": 1, "2 1 2 1 2 1 2 1 2 1 2": 64} {
		cellsAre(t, numbers(s), want)
	}
	for _, s := range []string{"9 9", "8 9", "9 8", "5 13", "13 5", "65 1", "1 65", "33 2", "2 33", "64 2", "2 64", "64 64", "4 4 5", "4 5 4", "5 4 4", "2 2 2 2 2 3", "2 2 2 2 2 2 2", "64 1 1 2", "0 1", "8 0 8", "64 64 0", "-1 -1", "-8 -8", "-8 8", "-1 2 -1", "1 -64"} {
		mayNotBe(t, numbers(s))
	}
	// Products that an int does not hold, and that would be 0, 1 or less than 64 if one wrapped round.
	for n := 2; n <= 16; n++ {
		mayNotBe(t, slices.Repeat([]int{64}, n))
		mayNotBe(t, slices.Repeat([]int{63}, n))
	}
	for _, shares := range [][]int{{1 << 32, 1 << 32}, {1 << 62, 4}, {1 << 62, 4, 0}, {math.MaxInt, math.MaxInt}, {math.MinInt, math.MinInt}, {3, -6148914691236517205}, {math.MinInt, -1}, {math.MaxInt, 2}} {
		mayNotBe(t, shares)
	}
}

// Sh2: at most 16 variables.
func TestCellsVariables(t *testing.T) {
	for n := range 17 {
		cellsAre(t, slices.Repeat([]int{1}, n), 1)
	}
	cellsAre(t, append(slices.Repeat([]int{1}, 15), 64), 64)
	cellsAre(t, append([]int{64}, slices.Repeat([]int{1}, 15)...), 64)
	for _, n := range []int{17, 18, 32, 64, 65, 100000} {
		mayNotBe(t, slices.Repeat([]int{1}, n))
	}
	mayNotBe(t, append(slices.Repeat([]int{1}, 16), 2))
}

// texts are words and other bytes, of all lengths.
func texts() []string {
	l := []string{"", "#", "##", "a", "ann", "bob", "p:knows", "-", "::", "abcdefghijklmnop", "123456789", "a\x00", "\x00a", "\x00", "ä ?\n", "\xff\xff\xff\xff", "ann#", "ann##"}
	for n := range 300 {
		l = append(l, "w"+strconv.Itoa(n))
	}
	for _, n := range []int{15, 16, 17, 255, 256, 4096, 65536, 1 << 20} {
		l = append(l, strings.Repeat("z", n), strings.Repeat("\x00", n), strings.Repeat("no end ", n))
	}
	return l
}

// Sh2: Part is layer 2's sum of the word and a # behind it.
func TestPart(t *testing.T) {
	for _, word := range texts() {
		sum := check.Sum(word + "#")
		if by := sumBy(word + "#"); by != sum {
			t.Fatalf("the sum of %.50q is %d, not %d", word, sum, by)
		}
		for parts := 1; parts <= 64; parts++ {
			if n := share.Part(word, parts); n != sum%parts {
				t.Fatalf("Part(%.50q, %d): %d, want %d", word, parts, n, sum%parts)
			}
		}
	}
	// Spelt out: the sum of ann# is 56583738.
	for parts, want := range map[int]int{1: 0, 2: 0, 3: 0, 7: 1, 10: 8, 63: 36, 64: 58} {
		if n := share.Part("ann", parts); n != want {
			t.Errorf("Part(ann, %d): %d, want %d", parts, n, want)
		}
	}
	// No part is without words.
	for parts := 1; parts <= 64; parts++ {
		for part := range parts {
			if n := share.Part(wordOf(part, parts, 0), parts); n != part {
				t.Fatalf("a word of part %d of %d is of part %d", part, parts, n)
			}
		}
	}
}

// Sh2: Part is 0 where parts are not 1 to 64.
func TestPartOutside(t *testing.T) {
	for _, word := range texts() {
		for _, parts := range append([]int{0, 65, 66, 127, 4096}, outside...) {
			if n := share.Part(word, parts); n != 0 {
				t.Errorf("Part(%.50q, %d): %d, want 0", word, parts, n)
			}
		}
	}
}

// refusedRoute is what Route must answer: ErrArg, and nothing beside it.
func refusedRoute(t *testing.T, shares, vars []int, words []string) {
	t.Helper()
	if l, e := share.Route(shares, vars, words); len(l) != 0 || e != api.ErrArg {
		t.Errorf("Route(%.200v, %.200v, %.200v): %v, %d, want ErrArg", shares, vars, words, l, e)
	}
}

// wordOf is a word that is of one part, of so many, and another one for each turn.
func wordOf(part, parts, turn int) string {
	for n := 0; ; n++ {
		word := "v" + strconv.Itoa(n)
		if partBy(word, parts) == part {
			if turn == 0 {
				return word
			}
			turn--
		}
	}
}

// routed must be what Route answers, spelt out, for words of those parts.
func routed(t *testing.T, shares, vars, parts, want string) {
	t.Helper()
	var words []string
	for i, part := range numbers(parts) {
		words = append(words, wordOf(part, numbers(shares)[numbers(vars)[i]], i))
	}
	l, e := share.Route(numbers(shares), numbers(vars), words)
	if text(l) != want || e != api.OK {
		t.Errorf("Route(%s, %s, %v): %v, %d, want %s", shares, vars, words, l, e, want)
	}
	if by := routeBy(numbers(shares), numbers(vars), words); text(by) != want {
		t.Errorf("Route(%s, %s, %v): the plain reading is %v, not %s", shares, vars, words, by, want)
	}
}

// Sh2: as many words as vars, and at most 16.
func TestRouteWordsAndVars(t *testing.T) {
	for vars := range 20 {
		for words := range 20 {
			l := slices.Repeat([]string{"ann"}, words)
			if vars != words || vars > 16 {
				refusedRoute(t, []int{2, 3}, make([]int, vars), l)
				refusedRoute(t, slices.Repeat([]int{1}, 16), make([]int, vars), l)
				continue
			}
			if cells, e := share.Route([]int{2, 3}, make([]int, vars), l); e != api.OK || len(cells) != 3 && vars > 0 {
				t.Errorf("%d words: %v, %d", vars, cells, e)
			}
		}
	}
}

// Sh2: one of vars is 0 to how many shares there are less 1, at whatever place it stands.
func TestRouteVars(t *testing.T) {
	for n := range 17 {
		shares := slices.Repeat([]int{1}, n)
		for _, v := range append([]int{n, n + 1, 16, 17, 64}, outside...) {
			refusedRoute(t, shares, []int{v}, []string{"ann"})
			if n > 0 {
				refusedRoute(t, shares, []int{0, v}, []string{"ann", "bob"})
				refusedRoute(t, shares, []int{v, n - 1}, []string{"ann", "bob"})
				refusedRoute(t, shares, []int{0, v, 0}, []string{"ann", "bob", "ann"})
			}
		}
		for v := range n {
			if cells, e := share.Route(shares, []int{v}, []string{"ann"}); !slices.Equal(cells, []int{0}) || e != api.OK {
				t.Errorf("Route(%v, %d): %v, %d", shares, v, cells, e)
			}
		}
	}
	// A variable that is not there is told, though words of another one are of unlike parts.
	refusedRoute(t, []int{2}, []int{0, 0, 1}, []string{wordOf(0, 2, 0), wordOf(1, 2, 0), "ann"})
	// No shares: one cell, of nothing.
	refusedRoute(t, nil, []int{0}, []string{"ann"})
	refusedRoute(t, []int{}, []int{-1}, []string{""})
	routed(t, "", "", "", "0")
}

// Sh2: the numbers of cells as the section Words has them, rising.
func TestRoute(t *testing.T) {
	routed(t, "2 3", "", "", "0 1 2 3 4 5")
	routed(t, "2 3", "0", "0", "0 1 2")
	routed(t, "2 3", "0", "1", "3 4 5")
	routed(t, "2 3", "1", "0", "0 3")
	routed(t, "2 3", "1", "1", "1 4")
	routed(t, "2 3", "1", "2", "2 5")
	routed(t, "2 3", "0 1", "1 1", "4")
	routed(t, "2 3", "1 0", "2 0", "2")
	routed(t, "3 2", "0 1", "2 1", "5")
	routed(t, "3 2", "0 1", "1 0", "2")
	routed(t, "3 2", "1", "1", "1 3 5")
	routed(t, "2 3 4", "0 1 2", "1 2 3", "23")
	routed(t, "2 3 4", "0 1 2", "1 0 2", "14")
	routed(t, "2 3 4", "2 1 0", "1 2 0", "9")
	routed(t, "2 3 4", "1", "2", "8 9 10 11 20 21 22 23")
	routed(t, "2 3 4", "2", "1", "1 5 9 13 17 21")
	routed(t, "2 3 4", "0", "1", "12 13 14 15 16 17 18 19 20 21 22 23")
	routed(t, "2 3 4", "2 0", "3 0", "3 7 11")
	routed(t, "2 3 4", "0 1", "1 1", "16 17 18 19")
	routed(t, "2 3 4", "1 2", "1 1", "5 17")
	routed(t, "1 4 1 4 1 4", "5 1 3", "3 1 2", "27")
	routed(t, "2 2 2 2 2 2", "0 5", "1 1", "33 35 37 39 41 43 45 47 49 51 53 55 57 59 61 63")
	routed(t, "64", "0", "63", "63")
	routed(t, "64", "0", "0", "0")
	routed(t, "1 1 1", "1", "0", "0")
	routed(t, "1 1 1 1 1 1 1 1 1 1 1 1 1 1 1 64", "15 0", "40 0", "40")
	routed(t, "64 1 1 1 1 1 1 1 1 1 1 1 1 1 1 1", "0 15 1 14 2 13 3 12 4 11 5 10 6 9 7 8", "41 0 0 0 0 0 0 0 0 0 0 0 0 0 0 0", "41")
}

// Sh2: one variable more than once, with the same word, with words of like parts, and of unlike ones.
func TestRouteTwice(t *testing.T) {
	// Each word of routed is another one.
	routed(t, "2 3", "0 0", "1 1", "3 4 5")
	routed(t, "2 3", "0 0", "0 1", "")
	routed(t, "2 3", "0 0", "1 0", "")
	routed(t, "2 3", "1 1", "2 2", "2 5")
	routed(t, "2 3", "1 1 1", "2 2 0", "")
	routed(t, "2 3", "1 0 1", "2 1 2", "5")
	routed(t, "2 3", "1 0 1", "2 1 1", "")
	routed(t, "2 3", "1 0 1 0", "0 1 0 0", "")
	routed(t, "64", "0 0 0 0 0 0 0 0 0 0 0 0 0 0 0 0", strings.Repeat("63 ", 16), "63")
	routed(t, "64", "0 0 0 0 0 0 0 0 0 0 0 0 0 0 0 0", strings.Repeat("63 ", 15)+"62", "")
	routed(t, "1 2", "0 0 0 0", "0 0 0 0", "0 1")
	for _, word := range texts() {
		l, e := share.Route([]int{3, 4}, []int{1, 1}, []string{word, word})
		if by := routeBy([]int{3, 4}, []int{1}, []string{word}); !slices.Equal(l, by) || len(l) != 3 || e != api.OK {
			t.Errorf("%.50q twice: %v, %d, want %v", word, l, e, by)
		}
	}
}

// The chapter's example.
func TestExample(t *testing.T) {
	shared(t, 8, 3, "0 1:100, 1 2:100, 2 0:100", "2 2 2")
	routed(t, "2 2 2", "1", "0", "0 1 4 5")
	routed(t, "2 2 2", "1", "1", "2 3 6 7")
	for _, word := range texts() {
		if l, e := share.Route([]int{2, 2, 2}, []int{1}, []string{word}); len(l) != 4 || e != api.OK {
			t.Errorf("%.50q: %v, %d", word, l, e)
		}
	}
}
