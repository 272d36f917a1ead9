package leap_test

import (
	"math"
	"math/rand"
	"slices"
	"testing"

	"sinew/api"
	"sinew/leap"
)

// asked is a join's arguments.
type asked struct {
	vars int
	keep []int
	rels []api.Rel
	most int
}

// join is what Join answers.
func (a asked) join() ([][]int, api.Errno) {
	return leap.Join(a.vars, a.keep, a.rels, a.most)
}

// held holds Join against the plain reading, and is what it answers. By puzzling, if choices are too many to be tried.
func (a asked) held(t *testing.T, puzzle bool) ([][]int, api.Errno) {
	t.Helper()
	by := triedBy
	if puzzle {
		by = puzzledBy
	}
	want, wantE := by(a.vars, a.keep, a.rels, a.most)
	l, e := a.join()
	if !same(l, want) || e != wantE {
		t.Fatalf("Join(%d, %v, %v, %d): %s, %d, want %s, %d", a.vars, a.keep, a.rels, a.most, text(l), e, text(want), wantE)
	}
	return l, e
}

// values are of which chance makes pairs.
var values = []int{0, 1, -1, 7, math.MaxInt, math.MinInt, 1 << 40, -5, 2, 3, 4, 5}

// chancePairs are at most so many pairs of so many values, some of them twice.
func chancePairs(r *rand.Rand, of, most int) (l [][2]int) {
	for range r.Intn(most + 1) {
		l = append(l, [2]int{values[r.Intn(of)], values[r.Intn(of)]})
	}
	if len(l) > 0 && r.Intn(3) == 0 {
		l = append(l, l[r.Intn(len(l))])
	}
	return l
}

// chanceKeep are some of the variables, in any order.
func chanceKeep(r *rand.Rand, vars int) []int {
	return r.Perm(vars)[:1+r.Intn(vars)]
}

// chanceJoin is a join that may be, and looks like chance: each variable is in a relation, and some more relations there are.
func chanceJoin(r *rand.Rand, vars, of, most int) asked {
	a := asked{vars: vars, keep: chanceKeep(r, vars), most: enough}
	for x := range vars {
		a.rels = append(a.rels, api.Rel{A: x, B: r.Intn(vars)})
	}
	for range r.Intn(vars + 1) {
		a.rels = append(a.rels, api.Rel{A: r.Intn(vars), B: r.Intn(vars)})
	}
	for i, l := range a.rels {
		if r.Intn(2) == 0 {
			a.rels[i].A, a.rels[i].B = l.B, l.A
		}
		a.rels[i].Rows = chancePairs(r, of, most)
	}
	r.Shuffle(len(a.rels), func(i, k int) { a.rels[i], a.rels[k] = a.rels[k], a.rels[i] })
	return a
}

// Le1 and Le2: many joins that look like chance and are the same in every run, each choice tried.
func TestChance(t *testing.T) {
	r := rand.New(rand.NewSource(121))
	none, few, lot := 0, 0, 0
	for range 20000 {
		vars := 1 + r.Intn(6)
		of := 1 + r.Intn([]int{12, 12, 8, 6, 4, 3}[vars-1])
		a := chanceJoin(r, vars, of, 1+r.Intn(2*of*of))
		switch l, _ := a.held(t, false); {
		case len(l) == 0:
			none++
		case len(l) < 10:
			few++
		default:
			lot++
		}
	}
	if none < 2000 || few < 2000 || lot < 500 {
		t.Errorf("%d without rows, %d with few, %d with many", none, few, lot)
	}
}

// Le1: as many rows as most, more and fewer.
func TestChanceMost(t *testing.T) {
	r := rand.New(rand.NewSource(122))
	many := 0
	for range 5000 {
		vars := 1 + r.Intn(4)
		a := chanceJoin(r, vars, 2+r.Intn(3), 12)
		l, _ := a.join()
		for _, most := range []int{len(l) - 2, len(l) - 1, len(l), len(l) + 1, 0, r.Intn(9)} {
			a.most = most
			if _, e := a.held(t, false); e == api.ErrMany {
				many++
			}
		}
	}
	if many < 2000 {
		t.Errorf("too many %d times", many)
	}
}

// Le1: arguments of which some may not be.
func TestChanceArguments(t *testing.T) {
	r := rand.New(rand.NewSource(123))
	wrong := []int{-1, -2, 3, 4, 16, 17, math.MinInt, math.MaxInt, 1 << 32}
	bad := 0
	for range 20000 {
		vars := 1 + r.Intn(3)
		a := chanceJoin(r, vars, 1+r.Intn(3), 8)
		odd := vars
		if r.Intn(3) > 0 {
			odd = wrong[r.Intn(len(wrong))]
		}
		one := &a.rels[r.Intn(len(a.rels))]
		switch r.Intn(9) {
		case 0:
			a.vars = odd
		case 1:
			a.keep[r.Intn(len(a.keep))] = odd
		case 2:
			a.keep = append(a.keep, a.keep[r.Intn(len(a.keep))])
		case 3:
			a.keep = nil
		case 4:
			one.A = odd
		case 5:
			one.B = odd
		case 6:
			a.rels = a.rels[:r.Intn(len(a.rels))]
		case 7:
			a.most = []int{-1, enough + 1, math.MinInt, math.MaxInt, 0, 1, 2}[r.Intn(7)]
		}
		if _, e := a.held(t, false); e == api.ErrArg {
			bad++
		}
	}
	if bad < 8000 || bad > 18000 {
		t.Errorf("%d of 20000 may not be", bad)
	}
}

// shape is relations' variables, of a text: two numbers each.
func shape(s string) (l []api.Rel) {
	n := numbers(s)
	for i := 0; i < len(n); i += 2 {
		l = append(l, api.Rel{A: n[i], B: n[i+1]})
	}
	return l
}

// shapes are how relations bind variables: rows, rings, stars, trees, all with all, parts that share none, and what hangs on them.
var shapes = []struct {
	vars int
	rels string
}{
	{3, "0 1  1 2  2 0"},
	{3, "0 1  1 2  2 0  0 1  0 0"},
	{4, "0 1  1 2  2 3"},
	{4, "0 1  1 2  2 3  3 0"},
	{4, "0 1  1 2  2 3  3 0  0 2"},
	{4, "0 1  0 2  0 3  1 2  1 3  2 3"},
	{4, "0 1  0 1  2 3  2 3"},
	{4, "0 1  0 2  0 3"},
	{5, "0 1  1 2  2 3  3 4"},
	{5, "0 1  1 2  2 3  3 4  4 0"},
	{5, "0 1  1 2  2 0  3 4  4 3"},
	{5, "0 1  1 2  2 0  2 3  3 4  4 2"},
	{5, "0 1  0 2  0 3  0 4"},
	{5, "0 1  0 2  0 3  0 4  1 2  3 4"},
	{6, "0 1  1 2  2 3  3 4  4 5"},
	{6, "0 1  1 2  2 3  3 4  4 5  5 0"},
	{6, "0 1  1 2  2 0  3 4  4 5  5 3"},
	{6, "0 1  1 2  2 0  3 4  4 5  5 3  0 3"},
	{6, "0 1  2 3  4 5"},
	{6, "0 1  0 1  2 3  3 2  4 5  4 5"},
	{6, "0 1  1 2  3 4  4 5  0 3  1 4  2 5"},
	{6, "0 1  1 2  1 3  3 4  3 5"},
}

// chanceShape is a join of one of the shapes, its variables numbered in any order, and its relations turned.
func chanceShape(r *rand.Rand, pairs func() [][2]int) asked {
	s := shapes[r.Intn(len(shapes))]
	a := asked{vars: s.vars, keep: chanceKeep(r, s.vars), rels: shape(s.rels), most: enough}
	number := r.Perm(s.vars)
	for i, l := range a.rels {
		a.rels[i] = api.Rel{A: number[l.A], B: number[l.B], Rows: pairs()}
		if r.Intn(2) == 0 {
			a.rels[i].A, a.rels[i].B = number[l.B], number[l.A]
		}
	}
	return a
}

// Le1 and Le2: relations that have each value once in either place: what fits two by two is all of it.
func TestChanceTurns(t *testing.T) {
	r := rand.New(rand.NewSource(124))
	rows, full := 0, 0
	for range 8000 {
		n := 2 + r.Intn(4)
		a := chanceShape(r, func() (l [][2]int) {
			for from, to := range r.Perm(n) {
				l = append(l, [2]int{from, to})
			}
			if r.Intn(3) == 0 {
				l = append(l, [2]int{r.Intn(n), r.Intn(n)})
			}
			return l
		})
		l, _ := a.held(t, a.vars > 4)
		if len(l) > 0 {
			rows++
		}
		if len(l) >= n {
			full++
		}
	}
	if rows < 3000 || rows > 7500 || full < 1000 || full > rows-500 {
		t.Errorf("%d of 8000 have rows, %d as many as values", rows, full)
	}
}

// Le1: more values and pairs than choices that could be tried.
func TestChanceMore(t *testing.T) {
	r := rand.New(rand.NewSource(125))
	rows := 0
	for range 1500 {
		n := 3 + r.Intn(20)
		pairs := n + r.Intn(n/2+1)
		a := chanceShape(r, func() (l [][2]int) {
			for range pairs {
				l = append(l, [2]int{r.Intn(n) - n/2, r.Intn(n) - n/2})
			}
			return l
		})
		if l, _ := a.held(t, true); len(l) > 0 {
			rows++
		}
	}
	if rows < 500 || rows > 1400 {
		t.Errorf("%d of 1500 have rows", rows)
	}
}

// chanceTree is a join of many variables, of which each is bound to one ahead of it, and a few are bound once more.
func chanceTree(r *rand.Rand, n int) asked {
	a := asked{vars: 7 + r.Intn(10), most: enough}
	number := r.Perm(a.vars)
	bind := func(x, y int) {
		l := api.Rel{A: number[x], B: number[y]}
		for from, to := range r.Perm(n) {
			if r.Intn(8) > 0 {
				l.Rows = append(l.Rows, [2]int{from, to})
			}
			if r.Intn(4) == 0 {
				l.Rows = append(l.Rows, [2]int{from, r.Intn(n)})
			}
		}
		a.rels = append(a.rels, l)
	}
	near := 1 + r.Intn(4)
	for x := 1; x < a.vars; x++ {
		bind(x, max(0, x-1-r.Intn(near)))
		if r.Intn(8) == 0 {
			bind(r.Intn(x+1), r.Intn(x+1))
		}
	}
	a.keep = chanceKeep(r, a.vars)
	if r.Intn(2) == 0 {
		a.keep = a.keep[:min(len(a.keep), 1+r.Intn(3))]
	}
	return a
}

// Le1: many variables, most of which rows tell nothing of, and those that are kept far from one another.
func TestChanceManyVariables(t *testing.T) {
	r := rand.New(rand.NewSource(126))
	rows := 0
	for range 2000 {
		if l, _ := chanceTree(r, 2+r.Intn(12)).held(t, true); len(l) > 0 {
			rows++
		}
	}
	if rows < 500 || rows > 1900 {
		t.Errorf("%d of 2000 have rows", rows)
	}
}

// Le2: of all rows that could be, those are there with which there is a choice, and no others.
func TestJustIfChoice(t *testing.T) {
	r := rand.New(rand.NewSource(127))
	there, gone := 0, 0
	for range 1500 {
		vars := 1 + r.Intn(4)
		a := chanceJoin(r, vars, 1+r.Intn(4), 20)
		l, e := a.join()
		if e != api.OK {
			t.Fatalf("%v: %d", a, e)
		}
		all := append(numbersOf(a.rels), 99)
		eachOf(all, len(a.keep), func(row []int) {
			is := false
			eachOf(all, vars, func(values []int) {
				is = is || slices.Equal(picked(values, a.keep), row) && isChoice(values, a.rels)
			})
			if is != slices.ContainsFunc(l, func(other []int) bool { return slices.Equal(row, other) }) {
				t.Fatalf("%v: row %v, a choice: %v; rows %s", a, row, is, text(l))
			}
			if is {
				there++
			} else {
				gone++
			}
		})
	}
	if there < 1000 || gone < 1000 {
		t.Errorf("%d rows, %d that are none", there, gone)
	}
}

// isAmong tells whether all rows of a list are among those of another one that rises.
func isAmong(l, others [][]int) bool {
	for _, row := range l {
		if _, ok := slices.BinarySearchFunc(others, row, slices.Compare); !ok {
			return false
		}
	}
	return true
}

// Le2: no row comes when a pair goes, one after the other till none is left.
func TestFewerPairs(t *testing.T) {
	r := rand.New(rand.NewSource(128))
	went := 0
	for i := range 600 {
		a := chanceJoin(r, 1+r.Intn(6), 1+r.Intn(4), 24)
		if i%2 == 0 {
			a = chanceTree(r, 3)
		}
		rows, _ := a.join()
		for {
			var left []int
			for i, l := range a.rels {
				if len(l.Rows) > 0 {
					left = append(left, i)
				}
			}
			if len(left) == 0 {
				break
			}
			one := &a.rels[left[r.Intn(len(left))]]
			at := r.Intn(len(one.Rows))
			one.Rows = append(slices.Clone(one.Rows[:at]), one.Rows[at+1:]...)
			l, e := a.join()
			if e != api.OK || !isAmong(l, rows) {
				t.Fatalf("%v: rows %s, %d; ahead of it %s", a, text(l), e, text(rows))
			}
			if len(l) < len(rows) {
				went++
			}
			rows = l
		}
		if len(rows) != 0 {
			t.Fatalf("%v: rows without pairs", a)
		}
	}
	if went < 400 {
		t.Errorf("rows went %d times", went)
	}
}

// Le2: with fewer pairs there are no more rows than most, if there were none too many.
func TestFewerPairsMost(t *testing.T) {
	r := rand.New(rand.NewSource(129))
	for range 1000 {
		a := chanceJoin(r, 1+r.Intn(4), 1+r.Intn(4), 16)
		a.most = r.Intn(12)
		_, e := a.join()
		for i := range a.rels {
			if n := len(a.rels[i].Rows); n > 0 {
				a.rels[i].Rows = a.rels[i].Rows[:r.Intn(n)]
			}
			_, next := a.join()
			if e == api.OK && next != api.OK {
				t.Fatalf("%v: %d", a, next)
			}
			e = next
		}
	}
}

// as must be answered as another join is.
func (a asked) as(t *testing.T, what string, other asked) {
	t.Helper()
	l, e := a.join()
	k, f := other.join()
	if !same(l, k) || e != f {
		t.Fatalf("%s: %v: %s, %d; %v: %s, %d", what, a, text(l), e, other, text(k), f)
	}
}

// Le1: relations and pairs in another order, turned, and the same ones twice; variables numbered otherwise.
func TestOtherWays(t *testing.T) {
	r := rand.New(rand.NewSource(130))
	for i := range 1500 {
		a := chanceTree(r, 2+r.Intn(30))
		if i%2 == 0 {
			a = chanceJoin(r, 1+r.Intn(8), 1+r.Intn(8), 30)
		}
		a.most = []int{enough, 50, 4}[r.Intn(3)]
		number := r.Perm(a.vars)
		mixed := asked{vars: a.vars, most: a.most, rels: slices.Clone(a.rels), keep: a.keep}
		other := asked{vars: a.vars, most: a.most, rels: slices.Clone(a.rels)}
		for _, x := range a.keep {
			other.keep = append(other.keep, number[x])
		}
		for i, l := range a.rels {
			other.rels[i].A, other.rels[i].B = number[l.A], number[l.B]
			rows := slices.Clone(l.Rows)
			r.Shuffle(len(rows), func(i, k int) { rows[i], rows[k] = rows[k], rows[i] })
			if r.Intn(2) == 0 {
				for i, pair := range rows {
					rows[i] = [2]int{pair[1], pair[0]}
				}
				l.A, l.B = l.B, l.A
			}
			mixed.rels[i] = api.Rel{A: l.A, B: l.B, Rows: append(rows, rows[:len(rows)/2]...)}
		}
		r.Shuffle(len(a.rels), func(i, k int) { mixed.rels[i], mixed.rels[k] = mixed.rels[k], mixed.rels[i] })
		a.as(t, "mixed", mixed)
		a.as(t, "numbered otherwise", other)
		mixed.rels = append(mixed.rels, a.rels...)
		a.as(t, "twice", mixed)
	}
}

// Le1: rows of fewer variables, and in another order, are those of all of them, without what is not kept.
func TestFewerKept(t *testing.T) {
	r := rand.New(rand.NewSource(131))
	for i := range 1500 {
		a := chanceTree(r, 2+r.Intn(8))
		if i%2 == 0 {
			a = chanceJoin(r, 1+r.Intn(8), 1+r.Intn(6), 20)
		}
		a.keep = upTo(a.vars)
		all, e := a.join()
		if e == api.ErrMany {
			continue
		}
		for range 3 {
			a.keep = chanceKeep(r, a.vars)
			var want [][]int
			for _, row := range all {
				want = append(want, picked(row, a.keep))
			}
			if l, e := a.join(); !same(l, risingBy(want)) || e != api.OK {
				t.Fatalf("%v: %s, %d, want %s", a, text(l), e, text(risingBy(want)))
			}
		}
	}
}

// ofBytes is a join of any bytes: variables, what is kept, relations and their pairs, as long as there are bytes.
func ofBytes(s []byte) asked {
	take := func() int {
		if len(s) == 0 {
			return 0
		}
		b := s[0]
		s = s[1:]
		return int(int8(b))
	}
	a := asked{vars: take(), most: take()}
	if a.most == 100 {
		a.most = enough
	}
	for range take() & 7 {
		a.keep = append(a.keep, take())
	}
	for len(s) > 0 {
		l := api.Rel{A: take(), B: take()}
		for range take() & 15 {
			l.Rows = append(l.Rows, [2]int{take(), take()})
		}
		a.rels = append(a.rels, l)
	}
	return a
}

// FuzzJoin: whatever a join is, it is answered as the chapter says.
func FuzzJoin(f *testing.F) {
	f.Add([]byte{2, 100, 2, 0, 1, 0, 1, 2, 1, 2, 2, 3, 1, 0, 1, 2, 1})
	f.Add([]byte{3, 100, 2, 2, 0, 0, 1, 3, 1, 1, 2, 2, 3, 3, 1, 2, 2, 1, 2, 2, 1, 2, 0, 2, 1, 1, 2, 3})
	f.Add([]byte{4, 3, 1, 3, 0, 1, 3, 1, 1, 1, 2, 2, 1, 2, 3, 4, 5, 5, 5, 5, 6, 6, 5})
	f.Add([]byte{1, 0, 1, 0, 0, 0, 2, 1, 2, 2, 1})
	f.Add([]byte{16, 100, 3, 15, 0, 7})
	f.Fuzz(func(t *testing.T, s []byte) {
		a := ofBytes(s)
		choices := 1
		for range min(max(a.vars, 0), 16) {
			choices = min(choices*len(numbersOf(a.rels)), 1000000)
		}
		if choices < 100000 && len(a.rels) < 100 {
			a.held(t, false)
		}
	})
}
