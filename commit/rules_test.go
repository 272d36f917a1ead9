package commit_test

import (
	"fmt"
	"math"
	"math/rand"
	"slices"
	"testing"

	"sinew/api"
	"sinew/commit"
	"sinew/flow"
)

// lists is what is done to each list of a note: of numbers, of texts, and of rows.
type lists struct {
	nums  func(l []int)
	texts func(l []string)
	rows  func(l [][]string)
}

// of goes over the lists of notes.
func (d lists) of(notes []api.Note) {
	for _, n := range notes {
		d.nums(n.Nums)
		d.texts(n.Texts)
		for _, row := range n.Rows {
			d.texts(row)
		}
		d.rows(n.Rows)
	}
}

// marked writes a mark over all that a list has, and behind its end; then it tells whether it is there.
func marked[T any](l []T, mark T, same func(a, b T) bool) func() bool {
	l = l[:cap(l)]
	for i := range l {
		l[i] = mark
	}
	return func() bool {
		return !slices.ContainsFunc(l, func(v T) bool { return !same(v, mark) })
	}
}

// spoilt writes over all that lists of notes have, and tells whether no two of them share memory.
func spoilt(notes []api.Note) bool {
	var apart []func() bool
	mark := func() string { return fmt.Sprint("spoilt", len(apart)) }
	equal := func(a, b string) bool { return a == b }
	lists{
		nums: func(l []int) {
			apart = append(apart, marked(l, -len(apart), func(a, b int) bool { return a == b }))
		},
		texts: func(l []string) { apart = append(apart, marked(l, mark(), equal)) },
		rows:  func(l [][]string) { apart = append(apart, marked(l, []string{mark()}, slices.Equal)) },
	}.of(notes)
	return !slices.ContainsFunc(apart, func(is func() bool) bool { return !is() })
}

// kept are answers in memory of their own, if whoever calls is careless: no two lists of an answer share memory.
func (w *world) kept(write []api.Note, out []flow.Out) ([]api.Note, []flow.Out) {
	w.t.Helper()
	if !w.careless {
		return write, out
	}
	var own []api.Note
	var to []flow.Out
	all := slices.Clone(write)
	for _, n := range write {
		own = append(own, copied(n))
	}
	for _, o := range out {
		to = append(to, flow.Out{To: o.To, Note: copied(o.Note)})
		all = append(all, o.Note)
	}
	clear(write[:cap(write)])
	clear(out[:cap(out)])
	if !spoilt(all) {
		w.t.Fatalf("lists of an answer share memory: %v, %v", own, to)
	}
	return own, to
}

// lent are notes to be handed in, and what is to be called then: they must be as they were, with what lies behind their lists' ends, and are written over, if whoever calls is careless.
func (w *world) lent(notes ...api.Note) ([]api.Note, func()) {
	if !w.careless {
		return notes, func() {}
	}
	var l []api.Note
	for _, n := range notes {
		roomy := api.Note{Kind: n.Kind, Nums: append(slices.Clone(n.Nums), 77)[:len(n.Nums)], Texts: append(slices.Clone(n.Texts), "behind")[:len(n.Texts)]}
		for _, row := range n.Rows {
			roomy.Rows = append(roomy.Rows, append(slices.Clone(row), "behind")[:len(row)])
		}
		roomy.Rows = append(roomy.Rows, []string{"behind"})[:len(n.Rows)]
		l = append(l, roomy)
	}
	l = append(l, api.Note{Kind: 77})[:len(l)]
	return l, func() {
		w.t.Helper()
		ok := slices.EqualFunc(l, notes, sameNote) && l[:len(l)+1][len(l)].Kind == 77
		lists{
			nums:  func(l []int) { ok = ok && l[:len(l)+1][len(l)] == 77 },
			texts: func(l []string) { ok = ok && l[:len(l)+1][len(l)] == "behind" },
			rows:  func(l [][]string) { ok = ok && slices.Equal(l[:len(l)+1][len(l)], []string{"behind"}) },
		}.of(l)
		if !ok {
			w.t.Fatalf("what was handed in has changed: %v", notes)
		}
		spoilt(l)
		clear(l)
	}
}

// R3: what is handed in is not changed, and not needed any more; lists of an answer share no memory with one another, nor with what later calls answer.
func TestCareless(t *testing.T) {
	r := rand.New(rand.NewSource(184))
	counts := map[string]int{}
	for _, way := range []struct{ workers, worlds, steps int }{{1, 30, 300}, {2, 60, 600}, {5, 30, 1500}} {
		for range way.worlds {
			w := newWorld(t, way.workers)
			w.careless = true
			s := &storm{Rand: r, world: w, crashes: chanceCrashes(r), counts: counts}
			s.rage(way.steps)
		}
	}
	isAll(t, counts, 30, "anew", "torn", "late", "asked again", "done", "lost")
}

// notGiven is that a head and a part that nobody made answer nothing.
func notGiven(t *testing.T, name string, h *commit.Head, p *commit.Part, notes []api.Note) {
	t.Helper()
	for range 2 {
		for _, l := range append(wrongBatches(), coming("a"), coming(homed("s", 64, 1, 1)...)) {
			if write, out, e := h.Begin(id(1), l); len(write) != 0 || len(out) != 0 || e != api.ErrArg {
				t.Errorf("%s: Begin: %v, %v, %d", name, write, out, e)
			}
		}
		for _, n := range notes {
			for _, from := range []int{-1, 0, 1, 2, 65} {
				if write, out := h.Take(from, n); len(write) != 0 || len(out) != 0 {
					t.Errorf("%s: a head's Take: %v, %v", name, write, out)
				}
			}
			if write, out := p.Take(n); len(write) != 0 || len(out) != 0 {
				t.Errorf("%s: a part's Take: %v, %v", name, write, out)
			}
		}
		if l := h.Again(); len(l) != 0 || h.Busy() || h.Version() != 0 || len(h.Order()) != 0 {
			t.Errorf("%s: %v, %t, %d, %v", name, l, h.Busy(), h.Version(), h.Order())
		}
		for i := range 4 {
			if v, e := h.Ended(id(i)); v != 0 || e != api.ErrArg {
				t.Errorf("%s: Ended: %d, %d", name, v, e)
			}
		}
		if p.Store() != nil || p.Waits() {
			t.Errorf("%s: %v, %t", name, p.Store(), p.Waits())
		}
	}
}

// R1: nil, and a head and parts that NewHead and NewPart did not give; a copy of one that they gave is none of these either, and changes nothing of it.
func TestNotGiven(t *testing.T) {
	w := newWorld(t, 2)
	var none commit.Head
	var nobody commit.Part
	copies := func(when string) {
		t.Helper()
		notes := []api.Note{{}, {Kind: 20}, {Kind: 25, Nums: []int{1, 1}}}
		for _, m := range w.all {
			notes = append(notes, m.note)
		}
		again := w.head.Again()
		for i, p := range w.parts {
			h, x := *w.head, *p
			notGiven(t, "a copy "+when, &h, &x, notes)
			none, nobody = *w.head, *p
			notGiven(t, "zero ones that became copies "+when, &none, &nobody, notes)
			w.stands(i + 1)
		}
		w.headStands()
		if !sameOut(w.head.Again(), again) {
			t.Errorf("%s: its copies were asked, and it sends others", when)
		}
	}
	notGiven(t, "zero", &none, &nobody, []api.Note{{}})
	copies("at first")
	ask := asked(t, w, 1, 2)
	w.send(ask)
	copies("begun")
	vote := w.answers(ask)
	w.send(vote)
	copies("asked")
	w.send(w.answers(vote))
	copies("voted")
	w.settle()
	copies("told")
	w.anew(0, true)
	copies("anew")
	w.settle()
	w.agrees()
	var notes []api.Note
	for _, m := range w.all {
		notes = append(notes, m.note)
	}
	notGiven(t, "nil", nil, nil, notes)
	notGiven(t, "new", new(commit.Head), new(commit.Part), notes)
	h, e := commit.NewHead(0, nil)
	p, err := commit.NewPart(notes)
	if e != api.ErrArg || err != api.ErrArg {
		t.Errorf("refused: %d, %d", e, err)
	}
	notGiven(t, "refused", h, p, notes)
}

// R1: any numbers, texts and notes: no call panics, and beside an error there is nothing.
func TestAtAll(t *testing.T) {
	r := rand.New(rand.NewSource(185))
	numbers := []int{0, 1, 2, 3, 4, 64, 65, -1, 1<<31 - 1, 1 << 32, 1 << 62, math.MinInt, math.MaxInt}
	number := func() int { return numbers[r.Intn(len(numbers))] }
	text := func() string {
		return []string{"", "+", "-", "a", "p", "\xff", "?x", fmt.Sprintf("%016d", 1), fmt.Sprintf("%017d", 1)}[r.Intn(9)]
	}
	note := func() api.Note {
		n := api.Note{Kind: 19 + r.Intn(11)}
		for range r.Intn(8) {
			n.Nums = append(n.Nums, number())
		}
		for range r.Intn(2) * r.Intn(3) {
			n.Texts = append(n.Texts, text())
		}
		for range r.Intn(2) * r.Intn(2) * r.Intn(5) * r.Intn(17) {
			n.Rows = append(n.Rows, make([]string, r.Intn(6)))
			for i := range n.Rows[len(n.Rows)-1] {
				n.Rows[len(n.Rows)-1][i] = text()
			}
		}
		// Now and then its sum is right.
		if len(n.Nums) > 0 && r.Intn(2) == 0 {
			n.Nums[len(n.Nums)-1] = sum(n)
		}
		return n
	}
	w := newWorld(t, 2)
	w.batch(id(1), coming("a", "b"))
	for range 20000 {
		l := []api.Note{note(), note(), note()}[:r.Intn(4)]
		if h, e := commit.NewHead(number(), l); (h == nil) != (e == api.ErrArg) {
			t.Fatalf("NewHead: %d, %v", e, l)
		}
		if p, e := commit.NewPart(l); (p == nil) != (e == api.ErrArg) {
			t.Fatalf("NewPart: %d, %v", e, l)
		}
		if r.Intn(100) == 0 {
			w = newWorld(t, 1+r.Intn(3))
			w.begin(id(1), coming("a", "b"))
		}
		w.head.Take(number(), note())
		w.parts[0].Take(note())
		x := api.Id{Client: number(), Seq: number()}
		f := api.Triple{S: text(), P: text(), O: text()}
		if write, out, e := w.head.Begin(x, []api.Change{{T: f}}); e != api.OK && len(write)+len(out) != 0 {
			t.Fatalf("Begin(%v, %v): %v, %v, %d", x, f, write, out, e)
		}
		if v, e := w.head.Ended(x); e != api.OK && v != 0 {
			t.Fatalf("Ended(%v): %d, %d", x, v, e)
		}
	}
}

// R4: parts of one journal, and heads of one, go ways of their own.
func TestOwnWays(t *testing.T) {
	w := newWorld(t, 2)
	w.batch(id(1), coming("a", "b", "c"))
	first, second := w.copied(), w.copied()
	for i := range 10 {
		first.settle()
		second.settle()
		first.batch(id(10+i), coming("a", fmt.Sprint("d", i)))
		second.batch(id(20+i), going("a", fmt.Sprint("d", i-1)))
		first.agrees()
		second.agrees()
	}
	w.headStands()
	w.agrees()
}

// R3: what a store had as it was answered, it has later, too.
func TestStoreStays(t *testing.T) {
	w := newWorld(t, 1)
	w.batch(id(1), coming("a", "b"))
	s := w.parts[0].Store()
	was, _ := s.Facts(1)
	w.batch(id(2), going("a"))
	if l, e := s.Facts(1); e != api.OK || !slices.Equal(l, was) || len(l) != 2 {
		t.Errorf("%v, %d, it had %v", l, e, was)
	}
}
