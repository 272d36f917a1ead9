package perm_test

import (
	"math"
	"math/rand"
	"slices"
	"sync"
	"testing"

	"sinew/api"
	"sinew/perm"
)

// orders are all six.
func orders() [][3]int {
	return [][3]int{{0, 1, 2}, {0, 2, 1}, {1, 0, 2}, {1, 2, 0}, {2, 0, 1}, {2, 1, 0}}
}

// ahead tells whether row a stands ahead of row b: by the first place of the order in which they differ.
func ahead(a, b, order [3]int) bool {
	if a[order[0]] != b[order[0]] {
		return a[order[0]] < b[order[0]]
	}
	if a[order[1]] != b[order[1]] {
		return a[order[1]] < b[order[1]]
	}
	return a[order[2]] < b[order[2]]
}

// sorted are rows in the chapter's own words: each once, behind all that stand ahead of it.
func sorted(rows [][3]int, order [3]int) [][3]int {
	var l [][3]int
	for _, r := range rows {
		at := 0
		for at < len(l) && ahead(l[at], r, order) {
			at++
		}
		if at == len(l) || l[at] != r {
			l = slices.Insert(l, at, r)
		}
	}
	return l
}

// level is the numbers of one, rising, and at which of them a climb stands; at how many there are: behind the last one.
type level struct {
	numbers []int
	at      int
}

func (l *level) ended() bool { return l.at == len(l.numbers) }

// climb is a walk in the chapter's own words: the levels that were opened, each with all of its numbers.
type climb struct {
	rows   [][3]int
	order  [3]int
	levels []*level
}

// below are the numbers below where a climb stands: of all rows that have its number at each level above.
func (c *climb) below() []int {
	var l []int
	for _, r := range c.rows {
		fits := true
		for d, v := range c.levels {
			fits = fits && v.numbers[v.at] == r[c.order[d]]
		}
		if n := r[c.order[len(c.levels)]]; fits && !slices.Contains(l, n) {
			l = append(l, n)
		}
	}
	slices.Sort(l)
	return l
}

// last is the level at which a climb is, or nil at the root.
func (c *climb) last() *level {
	if len(c.levels) == 0 {
		return nil
	}
	return c.levels[len(c.levels)-1]
}

func (c *climb) open() api.Errno {
	if v := c.last(); len(c.levels) == 3 || v != nil && v.ended() || len(c.rows) == 0 {
		return api.ErrNone
	}
	c.levels = append(c.levels, &level{c.below(), 0})
	return api.OK
}

func (c *climb) up() api.Errno {
	if len(c.levels) == 0 {
		return api.ErrNone
	}
	c.levels = c.levels[:len(c.levels)-1]
	return api.OK
}

func (c *climb) key() (int, bool) {
	if v := c.last(); v != nil && !v.ended() {
		return v.numbers[v.at], true
	}
	return 0, false
}

func (c *climb) next() api.Errno {
	v := c.last()
	if v == nil || v.ended() {
		return api.ErrNone
	}
	v.at++
	return api.OK
}

func (c *climb) seek(n int) api.Errno {
	v := c.last()
	if v == nil || v.ended() {
		return api.ErrNone
	}
	for !v.ended() && v.numbers[v.at] < n {
		v.at++
	}
	return api.OK
}

// pair is a walk, and the climb that it must be like.
type pair struct {
	t    *testing.T
	walk *perm.Walk
	like *climb
}

// made is an index, of rows that need not be sorted.
func made(t *testing.T, rows [][3]int, order [3]int) *perm.Index {
	t.Helper()
	x, e := perm.New(rows, order)
	if x == nil || e != api.OK {
		t.Fatalf("New(%v, %v): %v, %d", rows, order, x, e)
	}
	return x
}

// walked is a walk of an index that is made for it.
func walked(t *testing.T, rows [][3]int, order [3]int) *pair {
	t.Helper()
	w := made(t, rows, order).Walk()
	if w == nil {
		t.Fatal("Walk: nil")
	}
	p := &pair{t, w, &climb{rows: rows, order: order}}
	p.stands()
	return p
}

// stands tells whether a walk is where its climb is.
func (p *pair) stands() {
	p.t.Helper()
	if d := p.walk.Depth(); d != len(p.like.levels) {
		p.t.Fatalf("Depth: %d, want %d (rows %v, order %v)", d, len(p.like.levels), p.like.rows, p.like.order)
	}
	n, ok := p.walk.Key()
	if want, is := p.like.key(); n != want || ok != is {
		p.t.Fatalf("Key at depth %d: %d, %v, want %d, %v (rows %v, order %v)", p.walk.Depth(), n, ok, want, is, p.like.rows, p.like.order)
	}
}

// same tells whether a call was answered as it must be, and brought the walk where it must.
func (p *pair) same(name string, e, want api.Errno) api.Errno {
	p.t.Helper()
	if e != want {
		p.t.Fatalf("%s: %d, want %d (rows %v, order %v)", name, e, want, p.like.rows, p.like.order)
	}
	p.stands()
	return e
}

func (p *pair) open() api.Errno { return p.same("Open", p.walk.Open(), p.like.open()) }
func (p *pair) up() api.Errno   { return p.same("Up", p.walk.Up(), p.like.up()) }
func (p *pair) next() api.Errno { return p.same("Next", p.walk.Next(), p.like.next()) }
func (p *pair) seek(n int) api.Errno {
	return p.same("Seek", p.walk.Seek(n), p.like.seek(n))
}

// Rows of many kinds.

// someRows are few, in no order, of which some numbers are at each place, and the numbers below one come again below the next.
func someRows() [][3]int {
	return [][3]int{
		{2, 0, 0}, {1, 2, 3}, {1, 2, 4}, {1, 5, 0}, {1, 5, 3}, {3, 5, 3}, {3, 2, 3}, {2, 2, 3},
		{1, 2, 9}, {-4, 2, 3}, {-4, -2, -3}, {2, 0, -1}, {9, 9, 9}, {9, 9, -9}, {0, 0, 0}, {3, 5, 4},
	}
}

// edgeRows have the least and the greatest numbers, and those next to them.
func edgeRows() [][3]int {
	edge := []int{math.MaxInt, 0, math.MinInt, -1, math.MaxInt - 1, 1, math.MinInt + 1, 1 << 32, -1 << 32}
	var l [][3]int
	for i, a := range edge {
		for j, b := range edge {
			for _, c := range edge[:1+(i*4+j)%len(edge)] {
				l = append(l, [3]int{a, b, c})
			}
		}
	}
	return l
}

// chanceRows are so many, with numbers from low on, below high: the same for a seed in every run.
func chanceRows(seed int64, count, low, high int) [][3]int {
	r := rand.New(rand.NewSource(seed))
	l := make([][3]int, count)
	for i := range l {
		for k := range 3 {
			l[i][k] = low + r.Intn(high-low)
		}
	}
	return l
}

// oneAtAPlace are rows that all have the same number in the middle, and few at the last place.
func oneAtAPlace() [][3]int {
	l := chanceRows(3, 100, 0, 20)
	for i := range l {
		l[i][1] = 7
		l[i][2] %= 3
	}
	return l
}

// kinds are rows by what is of note in them.
func kinds() map[string][][3]int {
	same := slices.Repeat([][3]int{{4, 5, 6}}, 40)
	apart := append(append(someRows(), someRows()...), someRows()...)
	return map[string][][3]int{
		"nil":             nil,
		"none":            {},
		"one":             {{3, 1, 2}},
		"zeros":           {{0, 0, 0}},
		"two":             {{1, 0, 0}, {0, 1, 0}},
		"one twice":       {{3, 1, 2}, {3, 1, 2}},
		"same, next":      {{2, 2, 2}, {2, 2, 2}, {1, 1, 1}, {1, 1, 1}, {1, 1, 1}, {3, 3, 3}},
		"same, all":       same,
		"same, far apart": apart,
		"turned about":    {{1, 2, 3}, {3, 2, 1}, {2, 1, 3}, {1, 3, 2}, {3, 1, 2}, {2, 3, 1}},
		"some":            someRows(),
		"below 0":         {{-1, -2, -3}, {-3, -2, -1}, {-1, -2, -4}, {0, -1, 1}, {-1, 0, 0}},
		"least, greatest": edgeRows(),
		"many alike":      chanceRows(1, 600, -2, 3),
		"many unlike":     chanceRows(2, 600, -1<<40, 1<<40),
		"one at a place":  oneAtAPlace(),
	}
}

// each goes over all kinds of rows and all orders.
func each(t *testing.T, do func(t *testing.T, rows [][3]int, order [3]int)) {
	for name, rows := range kinds() {
		for _, o := range orders() {
			t.Run(name, func(t *testing.T) { do(t, rows, o) })
		}
	}
}

// holds tells whether an index has just these rows, by all that can be asked of it but a walk.
func holds(t *testing.T, x *perm.Index, rows [][3]int, order [3]int) {
	t.Helper()
	want := sorted(rows, order)
	if n := x.Len(); n != len(want) {
		t.Errorf("Len: %d, want %d", n, len(want))
	}
	if l := x.Rows(); !slices.Equal(l, want) {
		t.Errorf("Rows by %v: %v, want %v", order, l, want)
	}
}

// told are all rows that a walk through all numbers at depth 3 tells, places as they were.
func told(t *testing.T, w *perm.Walk, order [3]int) [][3]int {
	t.Helper()
	var l [][3]int
	var row [3]int
	var down func(depth int)
	down = func(depth int) {
		if depth == 3 {
			l = append(l, row)
			return
		}
		// Of no rows there is nothing to open.
		if w.Open() != api.OK {
			return
		}
		for {
			n, ok := w.Key()
			if !ok {
				break
			}
			row[order[depth]] = n
			down(depth + 1)
			if e := w.Next(); e != api.OK {
				t.Fatalf("Next at depth %d: %d", w.Depth(), e)
			}
		}
		if e := w.Up(); e != api.OK {
			t.Fatalf("Up from behind the last: %d", e)
		}
	}
	down(0)
	return l
}

// The chapter's example.
func TestExample(t *testing.T) {
	w := made(t, [][3]int{{1, 2, 3}, {1, 2, 4}, {2, 0, 0}}, [3]int{0, 1, 2}).Walk()
	for i, s := range []struct {
		do   func() api.Errno
		want int
	}{{w.Open, 1}, {w.Open, 2}, {w.Open, 3}, {w.Next, 4}, {w.Up, 2}, {w.Up, 1}, {w.Next, 2}} {
		if e := s.do(); e != api.OK {
			t.Errorf("step %d: %d", i, e)
		}
		if n, ok := w.Key(); n != s.want || !ok {
			t.Errorf("step %d: %d, %v, want %d", i, n, ok, s.want)
		}
	}
}

// Pe1: rows of all kinds, in each of the six orders.
func TestNew(t *testing.T) {
	each(t, func(t *testing.T, rows [][3]int, order [3]int) {
		holds(t, made(t, rows, order), rows, order)
	})
}

// Pe1: one order spelt out, so that the tests' own sorting is held against something, too.
func TestRowsSpelt(t *testing.T) {
	x := made(t, [][3]int{{2, 0, 7}, {1, 2, 3}, {1, 0, 7}, {1, 2, 3}, {-1, 2, 3}}, [3]int{2, 0, 1})
	want := [][3]int{{-1, 2, 3}, {1, 2, 3}, {1, 0, 7}, {2, 0, 7}}
	if l := x.Rows(); !slices.Equal(l, want) || x.Len() != 4 {
		t.Errorf("Rows: %v, %d", l, x.Len())
	}
}

// Pe1: however the rows stand when they are handed in, the index is the same.
func TestNewInAnyOrder(t *testing.T) {
	r := rand.New(rand.NewSource(6))
	rows := append(someRows(), someRows()[3:8]...)
	for _, o := range orders() {
		for range 50 {
			r.Shuffle(len(rows), func(a, b int) { rows[a], rows[b] = rows[b], rows[a] })
			holds(t, made(t, rows, o), someRows(), o)
		}
	}
}

// Pe1: all orders of places from -2 to 4, of which six are some; and of the least and the greatest numbers, and what wraps round to a place.
func TestNewOrder(t *testing.T) {
	numbers := []int{-2, -1, 0, 1, 2, 3, 4, math.MinInt, math.MaxInt, 1 << 32, 1<<32 + 1, -1 << 32}
	good := 0
	for _, a := range numbers {
		for _, b := range numbers {
			for _, c := range numbers {
				o := [3]int{a, b, c}
				if slices.Contains(orders(), o) {
					good++
					holds(t, made(t, someRows(), o), someRows(), o)
					continue
				}
				for _, rows := range [][][3]int{nil, {{1, 2, 3}}, someRows()} {
					if x, e := perm.New(rows, o); x != nil || e != api.ErrArg {
						t.Fatalf("New by %v: %v, %d", o, x, e)
					}
				}
			}
		}
	}
	if good != 6 {
		t.Errorf("%d orders", good)
	}
}

// R3: rows that are handed in are not changed, and the room behind them is neither read nor changed; what becomes of them later changes nothing.
func TestRowsAreNotKept(t *testing.T) {
	for _, o := range orders() {
		room := append(someRows(), [3]int{77, 77, 77}, [3]int{-77, 0, 0})
		rows := room[: len(room)-2 : len(room)]
		x := made(t, rows, o)
		w := x.Walk()
		if !slices.Equal(rows, someRows()) || room[len(room)-2] != [3]int{77, 77, 77} || room[len(room)-1] != [3]int{-77, 0, 0} {
			t.Fatal("New has changed what was handed in")
		}
		holds(t, x, someRows(), o)
		for i := range room {
			room[i] = [3]int{5, 5, 5}
		}
		_ = append(rows[:0], [3]int{1, 1, 1})
		holds(t, x, someRows(), o)
		if l := told(t, w, o); !slices.Equal(l, sorted(someRows(), o)) {
			t.Errorf("a walk tells %v", l)
		}
	}
}

// R3: what Rows answered is new memory.
func TestAnswersAreNew(t *testing.T) {
	for _, o := range orders() {
		x := made(t, someRows(), o)
		w := x.Walk()
		first, second := x.Rows(), x.Rows()
		for i := range first {
			first[i] = [3]int{-9, -9, -9}
		}
		_ = append(first[:1], [3]int{8, 8, 8})
		if !slices.Equal(second, sorted(someRows(), o)) {
			t.Error("two answers share memory")
		}
		_ = append(second, [3]int{8, 8, 8})
		holds(t, x, someRows(), o)
		if l := told(t, w, o); !slices.Equal(l, sorted(someRows(), o)) {
			t.Errorf("a walk tells %v", l)
		}
	}
}

// refused tells whether these calls are all answered ErrNone, and none of them moves the walk.
func (p *pair) refused(calls ...func() api.Errno) {
	p.t.Helper()
	for range 2 {
		for i, do := range calls {
			if e := do(); e != api.ErrNone {
				p.t.Fatalf("call %d at depth %d: %d, want ErrNone", i, p.walk.Depth(), e)
			}
			p.stands()
		}
	}
}

// seeks are calls that look for numbers of all kinds.
func (p *pair) seeks() []func() api.Errno {
	var l []func() api.Errno
	for _, n := range []int{math.MinInt, -5, -1, 0, 1, 2, 5, 9, 10, math.MaxInt} {
		l = append(l, func() api.Errno { return p.walk.Seek(n) })
	}
	return l
}

// Pe2: at the root there is no number, no way up and none on; behind being refused, it opens as ever.
func TestRoot(t *testing.T) {
	for _, o := range orders() {
		p := walked(t, someRows(), o)
		p.refused(append(p.seeks(), p.walk.Up, p.walk.Next)...)
		if n, ok := p.walk.Key(); n != 0 || ok || p.walk.Depth() != 0 {
			t.Errorf("at the root: %d, %v at depth %d", n, ok, p.walk.Depth())
		}
		p.open()
		p.up()
		p.refused(append(p.seeks(), p.walk.Up, p.walk.Next)...)
		p.open()
		p.next()
		p.up()
		if p.open() != api.OK {
			t.Error("Open at the root again")
		}
	}
}

// Pe2: at the root of an index without rows nothing opens.
func TestNoRows(t *testing.T) {
	for _, rows := range [][][3]int{nil, {}} {
		for _, o := range orders() {
			p := walked(t, rows, o)
			p.refused(append(p.seeks(), p.walk.Open, p.walk.Up, p.walk.Next)...)
			if n, ok := p.walk.Key(); n != 0 || ok || p.walk.Depth() != 0 {
				t.Errorf("Key: %d, %v, Depth: %d", n, ok, p.walk.Depth())
			}
		}
	}
}

// goTo opens a walk as far as depth, at each level above the last one at the given step of it (or at its last number).
func (p *pair) goTo(depth, step int) {
	p.t.Helper()
	for d := range depth {
		if p.open() != api.OK {
			p.t.Fatalf("Open at depth %d", d)
		}
		for range min(step, len(p.like.last().numbers)-1) {
			if d < depth-1 {
				p.next()
			}
		}
	}
}

// Pe2: at each depth, all numbers of the level one by one; then behind the last one nothing is left but the way up, to the number from which it was opened.
func TestNext(t *testing.T) {
	each(t, func(t *testing.T, rows [][3]int, order [3]int) {
		if len(rows) == 0 {
			return
		}
		for depth := 1; depth <= 3; depth++ {
			for _, step := range []int{0, 1, 2, 1 << 20} {
				p := walked(t, rows, order)
				p.goTo(depth-1, step)
				for range min(step, 1) {
					p.next()
				}
				from, was := p.walk.Key()
				if p.open() != api.OK {
					continue
				}
				for range len(p.like.last().numbers) {
					if p.next() != api.OK {
						t.Fatalf("Next at depth %d", depth)
					}
				}
				if n, ok := p.walk.Key(); n != 0 || ok || p.walk.Depth() != depth {
					t.Errorf("behind the last: %d, %v, %d", n, ok, p.walk.Depth())
				}
				p.refused(append(p.seeks(), p.walk.Open, p.walk.Next)...)
				if p.up() != api.OK {
					t.Error("Up from behind the last")
				}
				if n, ok := p.walk.Key(); n != from || ok != was {
					t.Errorf("up again at %d, %v, want %d, %v", n, ok, from, was)
				}
			}
		}
	})
}

// Pe2: at depth 3 nothing opens, at the first number, between, at the last, and behind it.
func TestOpenDeep(t *testing.T) {
	for _, o := range orders() {
		p := walked(t, someRows(), o)
		p.goTo(3, 1)
		for p.refused(p.walk.Open); p.walk.Next() == api.OK; p.refused(p.walk.Open) {
			p.like.next()
		}
		if p.walk.Depth() != 3 || p.up() != api.OK || p.walk.Depth() != 2 {
			t.Errorf("Depth: %d", p.walk.Depth())
		}
	}
}

// Pe2: Up from the first number, between and the last, at each depth, stands at the number from which it was opened; what is opened there again begins anew.
func TestUp(t *testing.T) {
	each(t, func(t *testing.T, rows [][3]int, order [3]int) {
		if len(rows) == 0 {
			return
		}
		for depth := 1; depth <= 3; depth++ {
			for steps := range 4 {
				p := walked(t, rows, order)
				p.goTo(depth, 1)
				first, _ := p.walk.Key()
				for range steps {
					p.next()
				}
				p.up()
				p.open()
				if n, ok := p.walk.Key(); n != first || !ok {
					t.Errorf("opened again: %d, %v, want %d", n, ok, first)
				}
				for range depth {
					if p.up() != api.OK {
						t.Error("Up")
					}
				}
				p.refused(p.walk.Up)
			}
		}
	})
}

// sought are the numbers that it is of note to look for at a level: the level's, those next to them, and those far off.
func sought(numbers []int) []int {
	l := []int{math.MinInt, math.MinInt + 1, -1, 0, 1, math.MaxInt - 1, math.MaxInt}
	for _, n := range numbers[:min(len(numbers), 12)] {
		l = append(l, n)
		if n > math.MinInt {
			l = append(l, n-1)
		}
		if n < math.MaxInt {
			l = append(l, n+1)
		}
	}
	last := numbers[len(numbers)-1]
	l = append(l, last)
	if last < math.MaxInt {
		l = append(l, last+1)
	}
	return l
}

// Pe2: Seek of each number that is of note, from the first number, from between, from the last one and from behind it, at each depth.
func TestSeek(t *testing.T) {
	each(t, func(t *testing.T, rows [][3]int, order [3]int) {
		if len(rows) == 0 {
			return
		}
		for depth := 1; depth <= 3; depth++ {
			for _, step := range []int{0, 1, 1 << 20} {
				p := walked(t, rows, order)
				p.goTo(depth, step)
				numbers := p.like.last().numbers
				for _, n := range sought(numbers) {
					for _, from := range []int{0, 1, len(numbers) / 2, len(numbers) - 1, len(numbers)} {
						p.up()
						p.open()
						for range min(from, len(numbers)) {
							p.next()
						}
						p.seek(n)
						p.next()
						p.seek(n)
					}
				}
			}
		}
	})
}

// Pe2: Seek spelt out: a number below and at the one where it stands leaves it there, one that is not there brings it to the next, one above all behind the last.
func TestSeekSpelt(t *testing.T) {
	w := made(t, [][3]int{{0, 2, 0}, {0, 4, 0}, {0, 4, 9}, {0, 7, 0}, {1, 5, 0}, {1, 9, 0}}, [3]int{0, 1, 2}).Walk()
	w.Open()
	w.Open()
	for _, s := range []struct {
		n, want int
		ok      bool
	}{{-1, 2, true}, {2, 2, true}, {3, 4, true}, {4, 4, true}, {0, 4, true}, {5, 7, true}, {7, 7, true}, {8, 0, false}} {
		if e := w.Seek(s.n); e != api.OK {
			t.Errorf("Seek(%d): %d", s.n, e)
		}
		if n, ok := w.Key(); n != s.want || ok != s.ok {
			t.Errorf("Seek(%d): at %d, %v, want %d, %v", s.n, n, ok, s.want, s.ok)
		}
	}
	if e := w.Seek(9); e != api.ErrNone {
		t.Errorf("Seek behind the last: %d", e)
	}
	if n, ok := w.Key(); n != 0 || ok || w.Depth() != 2 {
		t.Errorf("behind the last: %d, %v", n, ok)
	}
}

// Pe2: Next and Seek stay among the numbers below the one from which the level was opened, also where those below the next one are the same, or go on behind them.
func TestStaysBelow(t *testing.T) {
	rows := [][3]int{
		{1, 1, 1}, {1, 1, 2}, {1, 2, 1}, {1, 2, 2}, {1, 2, 3}, {1, 3, 4},
		{2, 1, 1}, {2, 1, 2}, {2, 2, 1}, {2, 2, 5}, {2, 4, 9}, {3, 5, 9}, {3, 6, 10},
	}
	for _, o := range orders() {
		for depth := 2; depth <= 3; depth++ {
			for step := range 3 {
				for n := range 12 {
					p := walked(t, rows, o)
					p.goTo(depth, step)
					p.seek(n)
					for p.next() == api.OK {
					}
					p.up()
					p.open()
					p.seek(math.MaxInt)
					if _, ok := p.walk.Key(); ok {
						t.Error("a number above all")
					}
				}
			}
		}
	}
}

// Pe2: a walk that moves moves no other of its index, whatever is opened and left by it.
func TestTwoWalks(t *testing.T) {
	for _, o := range orders() {
		x := made(t, someRows(), o)
		p := &pair{t, x.Walk(), &climb{rows: someRows(), order: o}}
		q := &pair{t, x.Walk(), &climb{rows: someRows(), order: o}}
		r := rand.New(rand.NewSource(7))
		for range 300 {
			p, q = q, p
			p.step(byte(r.Intn(256)))
			q.stands()
		}
		holds(t, x, someRows(), o)
		late := &pair{t, x.Walk(), &climb{rows: someRows(), order: o}}
		late.stands()
	}
}

// R4: walks of one index may go side by side, as none changes it.
func TestSideBySide(t *testing.T) {
	rows := chanceRows(4, 500, 0, 9)
	x := made(t, rows, [3]int{2, 0, 1})
	want := sorted(rows, [3]int{2, 0, 1})
	all := make([][][3]int, 8)
	var wait sync.WaitGroup
	for i := range all {
		w := x.Walk()
		wait.Go(func() { all[i] = told(t, w, [3]int{2, 0, 1}) })
	}
	wait.Wait()
	for i, l := range all {
		if !slices.Equal(l, want) {
			t.Errorf("walk %d tells otherwise", i)
		}
	}
}

// Pe3: a walk through all numbers at depth 3 tells all rows, and is at the root again; so does the same walk once more.
func TestTellsAll(t *testing.T) {
	each(t, func(t *testing.T, rows [][3]int, order [3]int) {
		x := made(t, rows, order)
		w := x.Walk()
		for range 2 {
			l := told(t, w, order)
			if !slices.Equal(l, sorted(rows, order)) || !slices.Equal(l, x.Rows()) {
				t.Errorf("by %v: %v, want %v", order, l, sorted(rows, order))
			}
			if w.Depth() != 0 {
				t.Errorf("Depth: %d", w.Depth())
			}
		}
	})
}

// Pe1, Pe3: more rows than can be sorted one by one: they rise, none is missing, and a walk tells them.
func TestManyRows(t *testing.T) {
	var rows [][3]int
	for i := range 60 * 60 * 60 {
		rows = append(rows, [3]int{i % 60, i / 60 % 60, i / 3600})
	}
	rand.New(rand.NewSource(8)).Shuffle(len(rows), func(a, b int) { rows[a], rows[b] = rows[b], rows[a] })
	for _, o := range orders() {
		x := made(t, append(slices.Clip(rows), rows[:5000]...), o)
		l := x.Rows()
		if len(l) != len(rows) || x.Len() != len(rows) {
			t.Fatalf("%d rows, want %d", len(l), len(rows))
		}
		for i := 1; i < len(l); i++ {
			if !ahead(l[i-1], l[i], o) {
				t.Fatalf("%v stands ahead of %v", l[i-1], l[i])
			}
		}
		if !slices.Equal(told(t, x.Walk(), o), l) {
			t.Error("a walk tells otherwise")
		}
	}
}

// R1: an index that is nil, or that New did not give; a copy of one that it gave is none of these either.
func TestIndexNotGiven(t *testing.T) {
	given := made(t, someRows(), [3]int{1, 0, 2})
	copied := *given
	for name, x := range map[string]*perm.Index{"nil": nil, "none": {}, "new": new(perm.Index), "copied": &copied} {
		for range 2 {
			if n := x.Len(); n != 0 {
				t.Errorf("%s: Len: %d", name, n)
			}
			if l := x.Rows(); len(l) != 0 {
				t.Errorf("%s: Rows: %v", name, l)
			}
			if w := x.Walk(); w != nil {
				t.Errorf("%s: Walk: %v", name, w)
			}
		}
	}
	holds(t, given, someRows(), [3]int{1, 0, 2})
}

// R1: a walk that is nil, or that no index gave; a copy of one that it gave is none of these either.
func TestWalkNotGiven(t *testing.T) {
	p := walked(t, someRows(), [3]int{0, 1, 2})
	p.goTo(2, 1)
	copied := *p.walk
	var none *perm.Index
	for name, w := range map[string]*perm.Walk{"nil": nil, "of nil": none.Walk(), "none": {}, "new": new(perm.Walk), "copied": &copied} {
		for range 2 {
			for i, do := range []func() api.Errno{w.Open, w.Up, w.Next} {
				if e := do(); e != api.ErrArg {
					t.Errorf("%s: call %d: %d", name, i, e)
				}
			}
			for _, n := range []int{math.MinInt, -1, 0, 1, 9, math.MaxInt} {
				if e := w.Seek(n); e != api.ErrArg {
					t.Errorf("%s: Seek(%d): %d", name, n, e)
				}
			}
			if n, ok := w.Key(); n != 0 || ok {
				t.Errorf("%s: Key: %d, %v", name, n, ok)
			}
			if d := w.Depth(); d != 0 {
				t.Errorf("%s: Depth: %d", name, d)
			}
		}
	}
	p.stands()
	p.next()
}

// R4: the same calls answer the same.
func TestSameAgain(t *testing.T) {
	for _, o := range orders() {
		a, b := made(t, someRows(), o), made(t, someRows(), o)
		if !slices.Equal(a.Rows(), b.Rows()) || !slices.Equal(a.Rows(), a.Rows()) {
			t.Error("two that are alike have other rows")
		}
		if !slices.Equal(told(t, a.Walk(), o), told(t, b.Walk(), o)) {
			t.Error("two that are alike tell other rows")
		}
	}
}

// step does to a walk and to its climb what a byte says.
func (p *pair) step(b byte) {
	p.t.Helper()
	switch b % 8 {
	case 0, 1, 2:
		p.open()
	case 3:
		p.up()
	case 4, 5:
		p.next()
	default:
		p.seek(int(b/8)%16 - 4)
	}
}

// play makes an index of what the first bytes say, and walks it as the others do.
func play(t *testing.T, script []byte) {
	t.Helper()
	// Each step may go over all rows, so that a long script would take far too long.
	script = script[:min(len(script), 600)]
	if len(script) < 2 {
		return
	}
	order, count := orders()[int(script[0])%6], int(script[1])%64
	script = script[2:]
	var rows [][3]int
	for ; len(rows) < count && len(script) > 1; script = script[2:] {
		a, b := int(script[0]), int(script[1])
		rows = append(rows, [3]int{a%16 - 3, a/16 - 3, b%16 - 3})
	}
	x := made(t, rows, order)
	holds(t, x, rows, order)
	p := &pair{t, x.Walk(), &climb{rows: rows, order: order}}
	for _, b := range script {
		p.step(b)
	}
	holds(t, x, rows, order)
	if l := told(t, x.Walk(), order); !slices.Equal(l, sorted(rows, order)) {
		t.Fatalf("a walk tells %v, want %v", l, sorted(rows, order))
	}
}

// Pe1, Pe2, Pe3: many scripts that look like chance and are the same in every run.
func TestScripts(t *testing.T) {
	r := rand.New(rand.NewSource(17))
	for range 2000 {
		script := make([]byte, r.Intn(300))
		r.Read(script)
		play(t, script)
	}
}

// FuzzScript: whatever rows there are, a walk stands where the climb does.
func FuzzScript(f *testing.F) {
	f.Add([]byte{})
	f.Add([]byte{0, 0, 0, 3, 4, 6})
	f.Add([]byte("\x00\x03\x54\x06\x54\x07\x35\x03\x00\x00\x00\x04\x03\x03\x04"))
	f.Add([]byte("\x04\x10abcdefghijklmnopqrstuvwxyzabcdefghijklmnopqrstuvwxyz"))
	f.Fuzz(play)
}
