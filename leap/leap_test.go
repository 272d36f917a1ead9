package leap_test

import (
	"math"
	"slices"
	"strconv"
	"strings"
	"testing"

	"sinew/api"
	"sinew/leap"
)

// enough is as many rows as may be asked for.
const enough = 1 << 20

// rel is a relation of a text: pairs, divided by commas.
func rel(a, b int, s string) api.Rel {
	r := api.Rel{A: a, B: b}
	for _, pair := range strings.Split(s, ",") {
		if l := numbers(pair); len(l) == 2 {
			r.Rows = append(r.Rows, [2]int(l))
		} else if len(l) != 0 {
			panic("no pair: " + pair)
		}
	}
	return r
}

// numbers are those of a text.
func numbers(s string) (l []int) {
	for _, word := range strings.Fields(s) {
		n, err := strconv.Atoi(word)
		if err != nil {
			panic(err)
		}
		l = append(l, n)
	}
	return l
}

// text are rows with commas between.
func text(rows [][]int) string {
	var l []string
	for _, row := range rows {
		var words []string
		for _, n := range row {
			words = append(words, strconv.Itoa(n))
		}
		l = append(l, strings.Join(words, " "))
	}
	return strings.Join(l, ", ")
}

// same tells whether two lists of rows are the same; nil and the empty list are.
func same(a, b [][]int) bool {
	return slices.EqualFunc(a, b, slices.Equal)
}

// joins must be what Join answers, spelt out.
func joins(t *testing.T, vars int, keep string, want string, rels ...api.Rel) {
	t.Helper()
	l, e := leap.Join(vars, numbers(keep), rels, enough)
	if text(l) != want || e != api.OK {
		t.Errorf("Join(%d, %s, %v): %s, %d, want %s", vars, keep, rels, text(l), e, want)
	}
	if by, _ := puzzledBy(vars, numbers(keep), rels, enough); text(by) != want {
		t.Errorf("Join(%d, %s, %v): the plain reading is %s, not %s", vars, keep, rels, text(by), want)
	}
}

// refuses must be what Join answers: an error, and nothing beside it.
func refuses(t *testing.T, vars int, keep []int, rels []api.Rel, most int, want api.Errno) {
	t.Helper()
	l, e := leap.Join(vars, keep, rels, most)
	if len(l) != 0 || e != want {
		t.Errorf("Join(%d, %v, %.200v, %d): %d rows, %d, want %d", vars, keep, rels, most, len(l), e, want)
	}
}

// takes must be how many rows Join answers.
func takes(t *testing.T, vars int, keep []int, rels []api.Rel, most int, want int) [][]int {
	t.Helper()
	l, e := leap.Join(vars, keep, rels, most)
	if len(l) != want || e != api.OK {
		t.Errorf("Join(%d, %v, %d relations, %d): %d rows, %d, want %d", vars, keep, len(rels), most, len(l), e, want)
	}
	for i := range l {
		if len(l[i]) != len(keep) || i > 0 && !isAhead(l[i-1], l[i]) {
			t.Fatalf("Join(%d, %v): row %d is %v", vars, keep, i, l[i])
		}
	}
	return l
}

// upTo are the variables up to so many.
func upTo(vars int) (l []int) {
	for x := range vars {
		l = append(l, x)
	}
	return l
}

// row is relations, each between a variable and the next one, of the same pairs.
func row(vars int, pairs [][2]int) (l []api.Rel) {
	for x := range vars - 1 {
		l = append(l, api.Rel{A: x, B: x + 1, Rows: pairs})
	}
	return l
}

// ring is a row, and a relation from the last variable to the first one.
func ring(vars int, pairs [][2]int) []api.Rel {
	return append(row(vars, pairs), api.Rel{A: vars - 1, B: 0, Rows: pairs})
}

// full are all pairs of the numbers 0 to n less 1.
func full(n int) (l [][2]int) {
	for a := range n {
		for b := range n {
			l = append(l, [2]int{a, b})
		}
	}
	return l
}

// The chapter's example, and the document's sixth.
func TestExample(t *testing.T) {
	joins(t, 2, "0 1", "1 2", rel(0, 1, "1 2, 2 3"), rel(1, 0, "2 1"))
	joins(t, 3, "0 1 2", "1 2 3", rel(0, 1, "1 2, 2 3, 4 5"), rel(1, 2, "2 3, 3 4, 5 6"), rel(2, 0, "3 1, 4 1, 6 6"))
}

// Le1: how many variables there may be.
func TestVars(t *testing.T) {
	for vars := 1; vars <= 16; vars++ {
		rels := []api.Rel{rel(vars-1, 0, "7 7")}
		for x := range vars {
			rels = append(rels, rel(x, x, "7 7"))
		}
		if l := takes(t, vars, upTo(vars), rels, 1, 1); len(l) == 1 && slices.Max(l[0]) != 7 {
			t.Errorf("%d variables: %v", vars, l)
		}
	}
	for vars := 17; vars <= 70; vars++ {
		refuses(t, vars, []int{0}, row(vars, [][2]int{{7, 7}}), enough, api.ErrArg)
		refuses(t, vars, []int{0}, row(16, [][2]int{{7, 7}}), enough, api.ErrArg)
	}
	for _, vars := range []int{0, -1, -2, -15, -16, -17, math.MinInt, math.MinInt + 1, math.MaxInt, 1 << 16, 1<<16 + 1, 1 << 32, 1<<32 + 2, 1<<62 + 2} {
		for _, keep := range [][]int{nil, {0}, {0, 1}, {vars - 1}, {vars}} {
			for _, rels := range [][]api.Rel{nil, row(2, [][2]int{{7, 7}}), {rel(0, 0, "7 7")}, {rel(0, 0, "")}} {
				refuses(t, vars, keep, rels, enough, api.ErrArg)
			}
		}
	}
}

// Le1: how many rows may be asked for.
func TestMost(t *testing.T) {
	none, two := []api.Rel{rel(0, 1, "")}, []api.Rel{rel(0, 1, "7 7, 8 8")}
	for _, most := range []int{-1, -2, math.MinInt, 1<<20 + 1, 1<<20 + 2, 1 << 21, 1 << 32, math.MaxInt} {
		refuses(t, 2, []int{0}, two, most, api.ErrArg)
		refuses(t, 2, []int{0}, none, most, api.ErrArg)
	}
	for _, most := range []int{0, 1, 2, 3, 1<<20 - 1, 1 << 20} {
		takes(t, 2, []int{0}, none, most, 0)
		if most >= 2 {
			takes(t, 2, []int{0}, two, most, 2)
		} else {
			refuses(t, 2, []int{0}, two, most, api.ErrMany)
		}
	}
}

// Le1: what may be kept.
func TestKeep(t *testing.T) {
	for vars := 2; vars <= 16; vars++ {
		rels := row(vars, [][2]int{{7, 7}})
		for x := range vars {
			takes(t, vars, []int{x}, rels, 1, 1)
			takes(t, vars, append(upTo(x), x), rels, 1, 1)
			refuses(t, vars, []int{x, x}, rels, 9, api.ErrArg)
			refuses(t, vars, append(upTo(vars), x), rels, 9, api.ErrArg)
			refuses(t, vars, append([]int{x}, upTo(vars)...), rels, 9, api.ErrArg)
		}
		for _, x := range []int{-1, -2, -vars, -16, -17, vars, vars + 1, 16, 17, 31, 32, 63, 64, 65, 1 << 16, 1 << 32, -1 << 32, math.MinInt, math.MaxInt} {
			if x < vars && x >= 0 {
				continue
			}
			refuses(t, vars, []int{x}, rels, 9, api.ErrArg)
			refuses(t, vars, []int{0, x}, rels, 9, api.ErrArg)
			refuses(t, vars, []int{x, 0}, rels, 9, api.ErrArg)
			refuses(t, vars, append(upTo(vars), x), rels, 9, api.ErrArg)
		}
		refuses(t, vars, nil, rels, 9, api.ErrArg)
		refuses(t, vars, []int{}, rels, 9, api.ErrArg)
	}
}

// Le1: a relation's variables, in either place, in whichever relation, whether or not it has pairs.
func TestRelationsVariables(t *testing.T) {
	for _, vars := range []int{1, 2, 3, 15, 16} {
		for _, x := range []int{-1, -2, -16, vars, vars + 1, 16, 17, 32, 64, 1 << 16, 1 << 32, -1 << 32, math.MinInt, math.MaxInt} {
			if x < vars && x >= 0 {
				continue
			}
			for _, pairs := range []string{"", "7 7"} {
				for _, wrong := range []api.Rel{rel(x, 0, pairs), rel(0, x, pairs), rel(x, x, pairs), rel(vars-1, x, pairs), rel(x, vars-1, pairs)} {
					rels := append(row(vars, [][2]int{{7, 7}}), rel(vars-1, 0, "7 7"))
					for at := range len(rels) + 1 {
						refuses(t, vars, []int{0}, slices.Insert(slices.Clone(rels), at, wrong), 9, api.ErrArg)
					}
					takes(t, vars, []int{0}, rels, 9, 1)
				}
			}
		}
	}
}

// Le1: a variable that is in no relation.
func TestVariablesLeft(t *testing.T) {
	for vars := 1; vars <= 16; vars++ {
		refuses(t, vars, []int{0}, nil, 9, api.ErrArg)
		refuses(t, vars, []int{0}, []api.Rel{}, 9, api.ErrArg)
		for left := range vars {
			var each, pairs, none []api.Rel
			for x := range vars {
				if x == left {
					continue
				}
				each = append(each, rel(x, x, "7 7"))
				none = append(none, rel(x, x, ""))
				if next := (x + 1) % vars; next != left {
					pairs = append(pairs, rel(x, next, "7 7"), rel(next, x, "7 7"))
				}
			}
			for _, keep := range [][]int{{0}, {vars - 1}, {left}, upTo(vars)} {
				refuses(t, vars, keep, each, 9, api.ErrArg)
				refuses(t, vars, keep, pairs, 9, api.ErrArg)
				refuses(t, vars, keep, none, 9, api.ErrArg)
			}
			// In one place of one relation, with pairs or none, it is in a relation.
			takes(t, vars, []int{0}, append(each, rel(left, left, "7 7")), 9, 1)
			takes(t, vars, []int{left}, append(each, rel(left, 0, "7 7")), 9, 1)
			takes(t, vars, []int{left}, append(each, rel(0, left, "7 7")), 9, 1)
			takes(t, vars, []int{0}, append(each, rel(left, left, "")), 9, 0)
		}
	}
}

// Le1 and R2: ErrArg is ahead of ErrMany.
func TestFirstError(t *testing.T) {
	rels := []api.Rel{rel(0, 1, "7 7, 8 8")}
	refuses(t, 2, []int{0}, rels, 1, api.ErrMany)
	refuses(t, 2, []int{0, 0}, rels, 1, api.ErrArg)
	refuses(t, 2, []int{2}, rels, 1, api.ErrArg)
	refuses(t, 2, nil, rels, 1, api.ErrArg)
	refuses(t, 3, []int{0}, rels, 1, api.ErrArg)
	refuses(t, 1, []int{0}, rels, 1, api.ErrArg)
	refuses(t, 2, []int{0}, rels, -1, api.ErrArg)
	refuses(t, 2, []int{0}, append(rels, rel(0, 2, "")), 1, api.ErrArg)
	refuses(t, 2, []int{0}, append(rels, rel(0, 2, "7 7")), 1, api.ErrArg)
}

// Le1: more than most rows, and just as many. Rows are counted, not choices.
func TestMany(t *testing.T) {
	for _, n := range []int{1, 2, 3, 10, 64} {
		one := []api.Rel{{A: 0, B: 1, Rows: full(n)}}
		for _, k := range []struct{ keep, rows int }{{1, n}, {2, n * n}} {
			back := []int{1, 0}
			for _, keep := range [][]int{upTo(k.keep), back[:k.keep]} {
				takes(t, 2, keep, one, k.rows, k.rows)
				takes(t, 2, keep, one, k.rows+1, k.rows)
				refuses(t, 2, keep, one, k.rows-1, api.ErrMany)
				refuses(t, 2, keep, one, 0, api.ErrMany)
			}
		}
	}
	// Of 10 variables that have 4 values each there are 2^20 choices.
	rels := row(10, full(4))
	takes(t, 10, []int{9}, rels, 4, 4)
	refuses(t, 10, []int{9}, rels, 3, api.ErrMany)
	takes(t, 10, []int{9, 0, 4}, rels, 64, 64)
	refuses(t, 10, []int{9, 0, 4}, rels, 63, api.ErrMany)
	takes(t, 10, []int{9, 1, 7, 3, 5, 4, 6, 2, 8, 0}, rels, enough, enough)
	refuses(t, 10, []int{9, 1, 7, 3, 5, 4, 6, 2, 8, 0}, rels, enough-1, api.ErrMany)
	rels = append(row(9, full(4)), api.Rel{A: 9, B: 3, Rows: append(full(4), [2]int{4, 3})})
	refuses(t, 10, upTo(10), rels, enough, api.ErrMany)
	// Not the pairs are counted, nor those that come twice.
	takes(t, 2, []int{0}, []api.Rel{rel(0, 1, "7 7, 7 8, 7 9, 7 7")}, 1, 1)
	takes(t, 2, []int{0, 1}, []api.Rel{rel(0, 1, "7 7, 7 7, 7 7")}, 1, 1)
	takes(t, 2, []int{0, 1}, []api.Rel{rel(0, 1, "7 7, 7 8, 7 9"), rel(1, 0, "8 7")}, 1, 1)
	takes(t, 2, []int{1, 0}, []api.Rel{rel(0, 1, "7 7, 7 8, 7 9"), rel(1, 0, "8 8")}, 0, 0)
}

// Le1: one relation.
func TestOneRelation(t *testing.T) {
	joins(t, 2, "0 1", "", rel(0, 1, ""))
	joins(t, 2, "0", "", rel(0, 1, ""))
	joins(t, 2, "0 1", "5 3", rel(0, 1, "5 3"))
	joins(t, 2, "1 0", "3 5", rel(0, 1, "5 3"))
	joins(t, 2, "0 1", "3 5", rel(1, 0, "5 3"))
	joins(t, 2, "0", "5", rel(0, 1, "5 3"))
	joins(t, 2, "1", "3", rel(0, 1, "5 3"))
	// In any order, and twice.
	joins(t, 2, "0 1", "1 2, 1 9, 3 1, 3 4, 8 0", rel(0, 1, "3 4, 1 9, 8 0, 1 2, 3 1"))
	joins(t, 2, "1 0", "0 8, 1 3, 2 1, 4 3, 9 1", rel(0, 1, "3 4, 1 9, 8 0, 1 2, 3 1"))
	joins(t, 2, "0", "1, 3, 8", rel(0, 1, "3 4, 1 9, 8 0, 1 2, 3 1"))
	joins(t, 2, "1", "0, 1, 2, 4, 9", rel(0, 1, "3 4, 1 9, 8 0, 1 2, 3 1"))
	joins(t, 2, "0 1", "1 2, 2 1", rel(0, 1, "2 1, 1 2, 2 1, 2 1, 1 2"))
	// Rising as numbers do, and by the first values ahead of the second ones.
	joins(t, 2, "0 1", "-10 5, -9 -1, -9 4, 2 10, 10 2, 100 -1", rel(0, 1, "10 2, 2 10, -9 4, 100 -1, -10 5, -9 -1"))
	joins(t, 2, "1 0", "-1 -9, -1 100, 2 10, 4 -9, 5 -10, 10 2", rel(0, 1, "10 2, 2 10, -9 4, 100 -1, -10 5, -9 -1"))
}

// Le1: a relation whose two variables are one has the pairs with two like values alone.
func TestOneVariable(t *testing.T) {
	joins(t, 1, "0", "", rel(0, 0, ""))
	joins(t, 1, "0", "", rel(0, 0, "1 2, 2 1"))
	joins(t, 1, "0", "3", rel(0, 0, "1 2, 3 3"))
	joins(t, 1, "0", "-4, 1, 3", rel(0, 0, "3 3, 1 2, -4 -4, 1 1, 3 3, 2 1"))
	joins(t, 1, "0", "3", rel(0, 0, "3 3, 1 1"), rel(0, 0, "2 2, 3 3"), rel(0, 0, "3 3, 3 4"))
	joins(t, 1, "0", "", rel(0, 0, "3 3, 1 1"), rel(0, 0, "2 2, 3 3"), rel(0, 0, "1 1"))
	joins(t, 2, "0 1", "1 2, 3 1", rel(0, 0, "1 1, 2 3, 3 3"), rel(0, 1, "1 2, 2 3, 3 1, 4 4"))
	joins(t, 2, "0 1", "1 2, 2 3", rel(1, 1, "2 2, 3 3, 1 3"), rel(0, 1, "1 2, 2 3, 3 1, 4 4"))
	joins(t, 2, "1 0", "1 3", rel(1, 0, "1 3, 2 2"), rel(1, 1, "1 1, 2 3"), rel(0, 0, "3 3, 2 2"))
	joins(t, 2, "1", "1", rel(1, 0, "1 3, 2 2"), rel(1, 1, "1 1, 2 3"), rel(0, 0, "3 3, 2 2"))
	joins(t, 2, "1", "", rel(1, 0, "1 3, 2 2"), rel(1, 1, "1 1, 2 3"), rel(0, 0, "2 2"))
}

// Le1: several relations, with one variable, both or none in common.
func TestSeveralRelations(t *testing.T) {
	knows, likes := "1 2, 1 3, 2 3, 4 1, 5 5", "2 1, 3 1, 3 4, 5 5, 7 7"
	joins(t, 3, "0 1 2", "1 2 1, 1 3 1, 1 3 4, 2 3 1, 2 3 4, 5 5 5", rel(0, 1, knows), rel(1, 2, likes))
	joins(t, 3, "2 0", "1 1, 1 2, 4 1, 4 2, 5 5", rel(0, 1, knows), rel(1, 2, likes))
	joins(t, 3, "1", "2, 3, 5", rel(0, 1, knows), rel(1, 2, likes))
	joins(t, 3, "0", "1, 2, 5", rel(1, 2, likes), rel(0, 1, knows))
	joins(t, 3, "0 2 1", "2 1 1, 3 1 1, 3 4 1, 5 5 5", rel(1, 0, knows), rel(0, 2, likes), rel(2, 1, "1 1, 4 1, 5 5"))
	// Both.
	joins(t, 2, "0 1", "5 5", rel(0, 1, knows), rel(0, 1, likes))
	joins(t, 2, "0 1", "1 2, 1 3, 5 5", rel(0, 1, knows), rel(1, 0, likes))
	joins(t, 2, "1 0", "2 1, 3 1, 5 5", rel(0, 1, knows), rel(1, 0, likes))
	joins(t, 2, "1", "2, 3, 5", rel(0, 1, knows), rel(1, 0, likes))
	// The same one twice, and turned.
	joins(t, 2, "0 1", "1 2, 1 3, 2 3, 4 1, 5 5", rel(0, 1, knows), rel(0, 1, knows))
	joins(t, 2, "0 1", "1 2, 1 3, 2 3, 4 1, 5 5", rel(0, 1, knows), rel(1, 0, "3 2, 5 5, 2 1, 1 4, 3 1"), rel(0, 1, knows))
	joins(t, 3, "0 1 2", "1 2 3, 4 1 2, 4 1 3, 5 5 5", rel(0, 1, knows), rel(1, 2, knows))
	// None.
	joins(t, 4, "0 2", "1 8, 1 9, 2 8, 2 9", rel(0, 1, "1 1, 2 1, 2 2"), rel(2, 3, "9 1, 8 2, 8 1"))
	joins(t, 4, "3 0", "1 1, 1 2, 2 1, 2 2", rel(0, 1, "1 1, 2 1, 2 2"), rel(2, 3, "9 1, 8 2, 8 1"))
	joins(t, 4, "1 3 0", "1 1 1, 1 1 2, 1 2 1, 1 2 2, 2 1 2, 2 2 2", rel(0, 1, "1 1, 2 1, 2 2"), rel(2, 3, "9 1, 8 2, 8 1"))
	joins(t, 2, "0 1", "1 3, 1 4, 2 3, 2 4", rel(0, 0, "1 1, 2 2"), rel(1, 1, "4 4, 3 3"))
	joins(t, 2, "1", "3, 4", rel(0, 0, "1 1, 2 2"), rel(1, 1, "4 4, 3 3"))
	// Several at one variable, of which each one has a value that the others have not.
	joins(t, 4, "0", "4, 9", rel(0, 1, "1 0, 2 0, 4 0, 5 0, 9 0"), rel(0, 2, "0 0, 2 0, 3 0, 4 0, 9 0"), rel(3, 0, "0 1, 0 3, 0 4, 0 5, 0 9"))
	joins(t, 5, "0 4", "4 1, 4 2, 9 0", rel(0, 1, "1 0, 2 0, 4 0, 5 0, 9 0"), rel(0, 2, "0 0, 2 0, 3 0, 4 0, 9 0"), rel(3, 0, "0 1, 0 3, 0 4, 0 5, 0 9"), rel(4, 0, "2 4, 0 9, 1 4, 3 3"))
}

// Le1: a relation without pairs leaves no rows, wherever it is.
func TestNoPairs(t *testing.T) {
	full := []api.Rel{rel(0, 1, "1 1, 1 2"), rel(1, 2, "1 1, 2 1"), rel(3, 4, "1 1, 2 2"), rel(5, 5, "1 1")}
	joins(t, 6, "5 0", "1 1", full...)
	for _, empty := range []api.Rel{rel(0, 1, ""), rel(1, 0, ""), rel(2, 2, ""), rel(4, 3, ""), rel(5, 5, ""), rel(5, 0, ""), rel(4, 1, ""), rel(4, 4, "1 2"), {A: 3, B: 3, Rows: [][2]int{}}} {
		for at := range len(full) + 1 {
			rels := slices.Insert(slices.Clone(full), at, empty)
			for x := range 6 {
				takes(t, 6, []int{x}, rels, 0, 0)
			}
			takes(t, 6, []int{5, 4, 3, 2, 1, 0}, rels, 0, 0)
			takes(t, 6, upTo(6), rels, 0, 0)
		}
	}
}

// Le1: the greatest and the least numbers are numbers as all others.
func TestEdges(t *testing.T) {
	const least, greatest = math.MinInt, math.MaxInt
	edge := []int{least, least + 1, -1 << 32, -1, 0, 1, 1 << 32, greatest - 1, greatest}
	var all, turned [][2]int
	var want [][]int
	for i := range edge {
		turned = append(turned, [2]int{edge[i], edge[len(edge)-1-i]})
		for k := range edge {
			all = append(all, [2]int{edge[len(edge)-1-k], edge[i]})
			want = append(want, []int{edge[i], edge[k]})
		}
	}
	if l := takes(t, 2, []int{0, 1}, []api.Rel{{A: 0, B: 1, Rows: all}}, enough, len(want)); !same(l, want) {
		t.Errorf("all pairs: %v", l)
	}
	if l := takes(t, 2, []int{1, 0}, []api.Rel{{A: 0, B: 1, Rows: all}}, enough, len(want)); !same(l, want) {
		t.Errorf("all pairs, turned: %v", l)
	}
	for i, row := range takes(t, 3, []int{0, 1, 2}, []api.Rel{{A: 0, B: 1, Rows: turned}, {A: 1, B: 2, Rows: turned}, {A: 0, B: 2, Rows: all}}, enough, len(edge)) {
		if !slices.Equal(row, []int{edge[i], edge[len(edge)-1-i], edge[i]}) {
			t.Errorf("row %d: %v", i, row)
		}
	}
	// A way over variables between to the other end.
	for i, row := range takes(t, 4, []int{3, 0}, row(4, turned), enough, len(edge)) {
		if !slices.Equal(row, []int{edge[i], edge[len(edge)-1-i]}) {
			t.Errorf("row %d: %v", i, row)
		}
	}
	for _, n := range edge {
		one := [][2]int{{n, n}}
		if l := takes(t, 1, []int{0}, []api.Rel{{Rows: one}, {Rows: all}}, enough, 1); len(l) == 1 && l[0][0] != n {
			t.Errorf("%d: %v", n, l)
		}
		if l := takes(t, 2, []int{1, 0}, []api.Rel{{A: 0, B: 1, Rows: all}, {A: 1, B: 1, Rows: one}}, enough, len(edge)); len(l) > 0 && (l[0][0] != n || l[0][1] != least) {
			t.Errorf("%d: %v", n, l)
		}
	}
	// Not what is near to a number, nor what is like it but for a sign or for bits ahead.
	takes(t, 2, []int{0}, []api.Rel{{A: 0, B: 1, Rows: [][2]int{{least, 0}, {-1, 0}, {1 << 32, 0}}}, {A: 1, B: 0, Rows: [][2]int{{0, greatest}, {0, least + 1}, {0, 1}, {0, 0}}}}, 0, 0)
}

// Le1: keep in other orders than the variables', and fewer than there are: each row once.
func TestKept(t *testing.T) {
	rels := []api.Rel{rel(0, 1, "1 1, 1 2, 2 1"), rel(1, 2, "1 5, 1 6, 2 5"), rel(2, 3, "5 0, 6 0, 6 1")}
	joins(t, 4, "0 1 2 3", "1 1 5 0, 1 1 6 0, 1 1 6 1, 1 2 5 0, 2 1 5 0, 2 1 6 0, 2 1 6 1", rels...)
	joins(t, 4, "3 2 1 0", "0 5 1 1, 0 5 1 2, 0 5 2 1, 0 6 1 1, 0 6 1 2, 1 6 1 1, 1 6 1 2", rels...)
	joins(t, 4, "2 0 3 1", "5 1 0 1, 5 1 0 2, 5 2 0 1, 6 1 0 1, 6 1 1 1, 6 2 0 1, 6 2 1 1", rels...)
	joins(t, 4, "0 3", "1 0, 1 1, 2 0, 2 1", rels...)
	joins(t, 4, "3 0", "0 1, 0 2, 1 1, 1 2", rels...)
	joins(t, 4, "1 3", "1 0, 1 1, 2 0", rels...)
	joins(t, 4, "3 1", "0 1, 0 2, 1 1", rels...)
	joins(t, 4, "0 2 3", "1 5 0, 1 6 0, 1 6 1, 2 5 0, 2 6 0, 2 6 1", rels...)
	joins(t, 4, "0", "1, 2", rels...)
	joins(t, 4, "1", "1, 2", rels...)
	joins(t, 4, "2", "5, 6", rels...)
	joins(t, 4, "3", "0, 1", rels...)
}

// Le1: what fits two by two need not fit together.
func TestRings(t *testing.T) {
	// Each of two values has another one beside it: round three that cannot be, round four it can.
	other := [][2]int{{0, 1}, {1, 0}}
	for vars := 2; vars <= 16; vars++ {
		for _, keep := range [][]int{{0}, {vars - 1}, {vars / 2}, {vars / 2, 0}, {0, vars - 1}, upTo(vars)} {
			keep = slices.Compact(keep)
			if vars%2 == 1 {
				takes(t, vars, keep, ring(vars, other), 9, 0)
			} else {
				takes(t, vars, keep, ring(vars, other), 9, 2)
			}
			takes(t, vars, keep, append(ring(vars, other), rel(0, 0, "1 1")), 9, 1-vars%2)
		}
	}
	joins(t, 3, "0 1 2", "", rel(0, 1, "1 1, 2 2"), rel(1, 2, "1 1, 2 2"), rel(2, 0, "1 2, 2 1"))
	joins(t, 3, "0 1 2", "1 1 1, 2 2 2", rel(0, 1, "1 1, 2 2"), rel(1, 2, "1 1, 2 2"), rel(2, 0, "1 1, 2 2"))
	joins(t, 3, "1", "", rel(0, 1, "1 1, 2 2"), rel(1, 2, "1 1, 2 2"), rel(2, 0, "1 2, 2 1"))
	joins(t, 3, "2 0", "2 2", rel(0, 1, "1 1, 2 2"), rel(1, 2, "1 1, 2 2"), rel(2, 0, "1 2, 2 1, 2 2"))
	// Two relations that have the same values and no pair in common.
	joins(t, 2, "0", "", rel(0, 1, "1 1, 2 2, 3 3"), rel(0, 1, "1 2, 2 3, 3 1"))
	joins(t, 3, "2", "", rel(0, 1, "1 1, 2 2, 3 3"), rel(0, 1, "1 2, 2 3, 3 1"), rel(1, 2, "1 1, 2 2, 3 3"))
	joins(t, 3, "2", "", rel(2, 2, "1 1, 2 2, 3 3"), rel(0, 1, "1 1, 2 2, 3 3"), rel(0, 1, "1 2, 2 3, 3 1"))
	// Four, each one with all others: what fits three by three, and not all four.
	joins(t, 4, "0 1 2 3", "", rel(0, 1, "1 2, 2 1, 1 3, 3 1, 2 3, 3 2"), rel(0, 2, "1 2, 2 1, 1 3, 3 1, 2 3, 3 2"), rel(0, 3, "1 2, 2 1, 1 3, 3 1, 2 3, 3 2"), rel(1, 2, "1 2, 2 1, 1 3, 3 1, 2 3, 3 2"), rel(1, 3, "1 2, 2 1, 1 3, 3 1, 2 3, 3 2"), rel(2, 3, "1 2, 2 1, 1 3, 3 1, 2 3, 3 2"))
	joins(t, 4, "0 3", "1 2, 1 3, 2 1, 2 3, 3 1, 3 2", rel(0, 1, "1 2, 2 1, 1 3, 3 1, 2 3, 3 2"), rel(0, 2, "1 2, 2 1, 1 3, 3 1, 2 3, 3 2"), rel(0, 3, "1 2, 2 1, 1 3, 3 1, 2 3, 3 2"), rel(1, 3, "1 2, 2 1, 1 3, 3 1, 2 3, 3 2"), rel(2, 3, "1 2, 2 1, 1 3, 3 1, 2 3, 3 2"))
}
