package leap_test

import (
	"math"
	"math/rand"
	"slices"
	"sync"
	"testing"

	"sinew/api"
	"sinew/leap"
)

// moved are the pairs of the numbers 0 to n less 1, each with those that are so much greater, round and round.
func moved(n int, by ...int) (l [][2]int) {
	for a := range n {
		for _, b := range by {
			l = append(l, [2]int{a, (a + b) % n})
		}
	}
	return l
}

// turn is a pair for each of the numbers 0 to n less 1, with each of them once, by chance.
func turn(r *rand.Rand, n int) (l [][2]int) {
	for a, b := range r.Perm(n) {
		l = append(l, [2]int{a, b})
	}
	return l
}

// alike are the pairs of the numbers 0 to n less 1 of which both or none is odd, or just one, if they are not to be alike.
func alike(n int, are bool) (l [][2]int) {
	for _, pair := range full(n) {
		if ((pair[0]+pair[1])%2 == 0) == are {
			l = append(l, pair)
		}
	}
	return l
}

// unlike are the pairs of two of the numbers 0 to n less 1.
func unlike(n int) [][2]int {
	return slices.DeleteFunc(full(n), func(pair [2]int) bool { return pair[0] == pair[1] })
}

// everyTwo are relations of the same pairs between every two variables.
func everyTwo(vars int, pairs [][2]int) (l []api.Rel) {
	for a := range vars {
		for b := range a {
			l = append(l, api.Rel{A: a, B: b, Rows: pairs})
		}
	}
	return l
}

// Le1 and R1: choices that are far too many to be tried, along a row of variables.
func TestHardRows(t *testing.T) {
	// 10^16 choices.
	rels := row(16, full(10))
	takes(t, 16, []int{0}, rels, enough, 10)
	takes(t, 16, []int{15, 0}, rels, enough, 100)
	takes(t, 16, []int{7, 15, 0}, rels, enough, 1000)
	refuses(t, 16, upTo(16), rels, enough, api.ErrMany)
	// As many but for the last relation: it has nothing of what is ahead of it, or one pair.
	last := len(rels) - 1
	rels[last].Rows = [][2]int{{10, 0}, {11, 3}}
	for _, keep := range [][]int{{0}, {15}, {15, 0}, {0, 15}, {7}, upTo(16)} {
		takes(t, 16, keep, rels, 0, 0)
	}
	rels[last].Rows = [][2]int{{10, 0}, {3, 5}}
	takes(t, 16, []int{15}, rels, 1, 1)
	takes(t, 16, []int{15, 14}, rels, 1, 1)
	takes(t, 16, []int{0, 15}, rels, 10, 10)
	takes(t, 16, []int{0, 7, 15}, rels, 100, 100)
	// Dead ends that are found out at the other end alone.
	rels = append(row(16, full(10)), rel(15, 15, "77 77"))
	takes(t, 16, []int{0}, rels, 0, 0)
	rels = append(row(16, full(10)), rel(0, 0, "77 77"))
	takes(t, 16, []int{15, 3}, rels, 0, 0)
}

// Le1: what is kept stands at both ends, and what is between leads from each value to few.
func TestHardEnds(t *testing.T) {
	r := rand.New(rand.NewSource(132))
	for _, n := range []int{1, 2, 100, 5000} {
		var rels []api.Rel
		ends := upTo(n)
		for x := range 15 {
			pairs := turn(r, n)
			rels = append(rels, api.Rel{A: x, B: x + 1, Rows: pairs})
			for i, end := range ends {
				ends[i] = pairs[end][1]
			}
		}
		for from, row := range takes(t, 16, []int{0, 15}, rels, n, n) {
			if row[0] != from || row[1] != ends[from] {
				t.Fatalf("%d values: from %d to %v", n, from, row)
			}
		}
		for to, row := range takes(t, 16, []int{15, 0}, rels, n, n) {
			if row[0] != to || ends[row[1]] != to {
				t.Fatalf("%d values: back from %d to %v", n, to, row)
			}
		}
		takes(t, 16, []int{15, 0, 8}, rels, n, n)
		refuses(t, 16, []int{15, 0}, rels, n-1, api.ErrMany)
	}
	// From each value to some, and to so many that all must be looked at.
	for from, row := range takes(t, 6, []int{0, 5}, row(6, moved(2000, 0, 1)), enough, 12000) {
		if row[0] != from/6 || (row[1]-row[0]+2000)%2000 > 5 {
			t.Fatalf("row %d: %v", from, row)
		}
	}
	// Over very many to two, to one of which the last of the many alone leads.
	wide, narrow := [][2]int{}, [][2]int{{999, 1}}
	for i := range 1000 {
		wide, narrow = append(wide, [2]int{0, i}), append(narrow, [2]int{min(i, 998), 0})
	}
	rels := []api.Rel{{A: 0, B: 1, Rows: wide}, {A: 1, B: 2, Rows: moved(1000, 0)}, {A: 2, B: 3, Rows: narrow}}
	for _, keep := range [][]int{{0, 3}, {3, 0}} {
		if l := takes(t, 4, keep, rels, 2, 2); len(l) == 2 && (l[0][0]+l[0][1] != 0 || l[1][0]+l[1][1] != 1) {
			t.Errorf("keep %v: %v", keep, l)
		}
	}
	takes(t, 6, []int{5, 0}, row(6, alike(40, true)), enough, 800)
	takes(t, 6, []int{5, 0}, row(6, alike(40, false)), enough, 800)
	takes(t, 3, []int{0, 2}, row(3, full(300)), enough, 90000)
}

// Le1: rings, in which all values fit as far as one looks, and nothing together, or little.
func TestHardRings(t *testing.T) {
	// Round 15 variables, 1 to 5 further each time: 15 to 75 in all.
	for _, keep := range [][]int{{0}, {7}, {14, 0}, {3, 9}} {
		takes(t, 15, keep, ring(15, moved(100, 1, 2, 3, 4, 5)), 0, 0)
	}
	takes(t, 15, []int{0}, ring(15, moved(75, 1, 2, 3, 4, 5)), 75, 75)
	takes(t, 15, []int{4, 5}, ring(15, moved(75, 1, 2, 3, 4, 5)), 75, 75)
	takes(t, 15, []int{14, 0}, ring(15, moved(74, 1, 2, 3, 4, 5)), 148, 148)
	// What is odd each time is odd in all, round an odd number of variables.
	takes(t, 15, []int{2, 8}, ring(15, moved(100, 1, 3, 5, 7)), 0, 0)
	takes(t, 16, []int{2, 3}, ring(16, moved(80, 3, 5, 7)), 240, 240)
	one := ring(16, alike(30, true))
	takes(t, 16, []int{2, 9}, one, 450, 450)
	one[5].Rows = alike(30, false)
	takes(t, 16, []int{2, 9}, one, 0, 0)
	takes(t, 16, []int{5}, one, 0, 0)
	// Every two of them: each has its own value.
	takes(t, 16, []int{5, 0}, everyTwo(16, unlike(16)), 240, 240)
	takes(t, 8, []int{5, 0}, everyTwo(8, unlike(7)), 0, 0)
	takes(t, 7, upTo(7), everyTwo(7, unlike(7)), 5040, 5040)
	refuses(t, 7, upTo(7), everyTwo(7, unlike(7)), 5039, api.ErrMany)
}

// Le1: three relations in a ring, any two of which put together would be far too much.
func TestHardThree(t *testing.T) {
	var pairs [][2]int
	for i := range 20000 {
		pairs = append(pairs, [2]int{0, i}, [2]int{i, 0})
	}
	rels := ring(3, pairs)
	takes(t, 3, []int{0, 1, 2}, rels, 59998, 59998)
	refuses(t, 3, []int{2, 1, 0}, rels, 59997, api.ErrMany)
	takes(t, 3, []int{1}, rels, 20000, 20000)
	// Of 4*10^8 ways to go two relations none goes round.
	for i := range rels {
		rels[i].Rows = slices.DeleteFunc(slices.Clone(pairs), func(pair [2]int) bool { return pair[i%2] != 0 || pair == [2]int{} })
	}
	takes(t, 3, []int{0, 1, 2}, rels, 0, 0)
}

// Le1: parts that share no variable: each is looked at by itself.
func TestHardParts(t *testing.T) {
	r := rand.New(rand.NewSource(133))
	n := 20000
	// Two relations of the same values with one pair in common, and with none.
	to := turn(r, n)
	var others [][2]int
	for i, pair := range to {
		others = append(others, [2]int{pair[0], to[(i+1)%n][1]})
	}
	oneAlike := append(slices.Clone(others), to[77])
	apart := func(pairs [][2]int) []api.Rel {
		return []api.Rel{{A: 0, B: 1, Rows: turn(r, n)}, {A: 2, B: 3, Rows: to}, {A: 2, B: 3, Rows: pairs}, {A: 4, B: 5, Rows: full(100)}, {A: 6, B: 7, Rows: full(100)}}
	}
	for _, keep := range [][]int{{0, 2}, {2, 0}, {0, 3, 2}, {1}, {0}} {
		takes(t, 8, keep, apart(oneAlike), n, n)
		takes(t, 8, keep, apart(others), 0, 0)
	}
	takes(t, 8, []int{2}, apart(oneAlike), 1, 1)
	takes(t, 8, []int{4, 6, 3}, apart(oneAlike), 10000, 10000)
	takes(t, 8, []int{4, 6, 3, 7, 5, 1}, apart(others), 0, 0)
	refuses(t, 8, []int{4, 5, 6}, apart(oneAlike), 999999, api.ErrMany)
	// What hangs on one of two variables that are kept does not hang on the other one.
	rels := []api.Rel{{A: 0, B: 1, Rows: full(1000)}, {A: 1, B: 2, Rows: moved(1000, 0)}, {A: 1, B: 3, Rows: moved(1000, 0)}, {A: 2, B: 3, Rows: moved(1000, 1)}}
	takes(t, 4, []int{0, 1}, rels, 0, 0)
	rels[3].Rows = append(rels[3].Rows, [2]int{5, 5})
	takes(t, 4, []int{0, 1}, rels, 1000, 1000)
}

// Le1: more is found on the way than is kept in mind at a time.
func TestHardMemory(t *testing.T) {
	n := 30000
	for i, row := range takes(t, 12, []int{0, 1}, row(12, moved(n, 1, 2)), enough, 2*n) {
		if row[0] != i/2 || (row[1]-row[0]+n)%n > 2 {
			t.Fatalf("row %d: %v", i, row)
		}
	}
	rels := row(12, moved(n, 1, 2))
	rels[10].Rows = [][2]int{{20, 0}}
	takes(t, 12, []int{0, 1}, rels, 22, 20)
	takes(t, 12, []int{5}, rels, 6, 6)
}

// R1: arguments of all kinds, long ones too, end soon.
func TestHandedInAtAll(t *testing.T) {
	edge := []int{math.MinInt, -1, 0, 1, 2, 3, 16, 17, 63, 64, 1 << 20, 1<<20 + 1, math.MaxInt}
	lists := [][]int{nil, {}, {0}, {1}, {-1}, {0, 1}, {1, 0}, {0, 0}, {math.MinInt}, {math.MaxInt}, make([]int, 1000000), upTo(1000000)}
	relations := [][]api.Rel{nil, {}, {{}}, {{A: 1}}, {{B: 1}}, {{A: -1}}, {{B: math.MaxInt}}, {{A: math.MinInt, B: math.MinInt}}, {{Rows: make([][2]int, 100000)}}, {{A: 1, Rows: make([][2]int, 100000)}}, make([]api.Rel, 100000)}
	for _, vars := range edge {
		for _, keep := range lists {
			for _, rels := range relations {
				for _, most := range edge {
					l, e := leap.Join(vars, keep, rels, most)
					if mayBeBy(vars, keep[:min(len(keep), 20)], rels, most) == (e == api.ErrArg) || e != api.OK && len(l) != 0 {
						t.Fatalf("Join(%d, %.100v, %d relations, %d): %v, %d", vars, keep, len(rels), most, l, e)
					}
				}
			}
		}
	}
}

// R1: very many relations, and very many pairs.
func TestManyRelations(t *testing.T) {
	var rels []api.Rel
	for i := range 50000 {
		rels = append(rels, api.Rel{A: i % 16, B: i / 16 % 16, Rows: [][2]int{{i + 9, i + 9}, {2, 2}, {1, 1}}})
	}
	takes(t, 16, []int{9, 0}, rels, 2, 2)
	r := rand.New(rand.NewSource(134))
	var pairs [][2]int
	for i := range 300000 {
		pairs = append(pairs, [2]int{r.Intn(1000), i})
	}
	takes(t, 2, []int{0, 1}, []api.Rel{{A: 0, B: 1, Rows: pairs}}, 300000, 300000)
	takes(t, 2, []int{0}, []api.Rel{{A: 0, B: 1, Rows: pairs}}, 1000, 1000)
	refuses(t, 2, []int{1}, []api.Rel{{A: 0, B: 1, Rows: pairs}}, 299999, api.ErrMany)
}

// roomy is a list with something in the room behind its end.
func roomy[T any](l []T, behind T) []T {
	out := append(slices.Clone(l), behind, behind, behind)
	return out[:len(l)]
}

// R3: nothing that is handed in is changed, and nothing behind a list's end is read or changed.
func TestHandedIn(t *testing.T) {
	r := rand.New(rand.NewSource(135))
	stray := api.Rel{A: 0, B: 0, Rows: [][2]int{{99, 99}}}
	for range 2000 {
		a := chanceJoin(r, 1+r.Intn(4), 1+r.Intn(4), 12)
		a.most = []int{enough, 2, 0, -1}[r.Intn(4)]
		room := asked{vars: a.vars, keep: roomy(a.keep, 0), most: a.most}
		for _, l := range a.rels {
			room.rels = append(room.rels, api.Rel{A: l.A, B: l.B, Rows: roomy(l.Rows, [2]int{0, 0})})
		}
		room.rels = roomy(room.rels, stray)
		room.held(t, false)
		if !slices.Equal(room.keep[:len(a.keep)+3], append(slices.Clone(a.keep), 0, 0, 0)) {
			t.Fatalf("what is to be kept was changed: %v", room.keep[:len(a.keep)+3])
		}
		for i, l := range room.rels[:len(a.rels)+3] {
			want := stray
			if i < len(a.rels) {
				want = api.Rel{A: a.rels[i].A, B: a.rels[i].B, Rows: append(slices.Clone(a.rels[i].Rows), [][2]int{{}, {}, {}}...)}
				l.Rows = l.Rows[:len(l.Rows)+3]
			}
			if l.A != want.A || l.B != want.B || !slices.Equal(l.Rows, want.Rows) {
				t.Fatalf("relation %d was changed: %v, want %v", i, l, want)
			}
		}
	}
}

// spoil changes all numbers of rows, with the room behind their ends, and the rows themselves.
func spoil(rows [][]int) {
	for _, row := range rows {
		for i := range row[:cap(row)] {
			row[:cap(row)][i] = -77
		}
	}
	for i := range rows[:cap(rows)] {
		rows[:cap(rows)][i] = []int{-77}
	}
}

// R3: an answer's lists are new memory: they share none with another answer, with what was handed in, nor with one another.
func TestMemory(t *testing.T) {
	r := rand.New(rand.NewSource(136))
	for range 300 {
		a := chanceTree(r, 4)
		keep := slices.Clone(a.keep)
		want, e := a.join()
		if e != api.OK {
			t.Fatalf("%v: %d", a, e)
		}
		first := make([][]int, len(want))
		for i, row := range want {
			first[i] = slices.Clone(row)
		}
		again, _ := a.join()
		spoil(again)
		if l, _ := a.join(); !same(want, first) || !same(l, first) || !slices.Equal(a.keep, keep) {
			t.Fatalf("%v: answers share memory", a)
		}
		for i := range want {
			l, _ := a.join()
			for k := range l[i][:cap(l[i])] {
				l[i][:cap(l[i])][k] = -77
			}
			_ = append(l[i], -77)
			for k, row := range l {
				if k != i && !slices.Equal(row, first[k]) {
					t.Fatalf("%v: rows %d and %d share memory", a, i, k)
				}
			}
		}
	}
}

// R4: the same arguments have the same answer, also at the same time, and whatever was asked between.
func TestSameAnswer(t *testing.T) {
	r := rand.New(rand.NewSource(137))
	var all []asked
	var want [][][]int
	for range 200 {
		a := chanceTree(r, 5)
		l, _ := a.join()
		all, want = append(all, a), append(want, l)
	}
	var wait sync.WaitGroup
	for from := range 8 {
		wait.Go(func() {
			for i := range all {
				at := (i*7 + from*31) % len(all)
				if l, e := all[at].join(); !same(l, want[at]) || e != api.OK {
					t.Errorf("%v: %s, %d, then %s", all[at], text(want[at]), e, text(l))
				}
			}
		})
	}
	wait.Wait()
}
