package flow_test

import (
	"math"
	"math/rand"
	"slices"
	"strings"
	"testing"

	"sinew/api"
)

// unlike are notes that are like one of a try, and none of it; from whom they come is right.
func unlike(n api.Note) (l []api.Note) {
	add := func(change func(n *api.Note)) {
		other := cloned(n)
		change(&other)
		l = append(l, other)
	}
	for _, try := range []int{n.Nums[0] - 1, n.Nums[0] + 1, 0, -1, most, math.MaxInt, math.MinInt} {
		add(func(n *api.Note) { n.Nums[0] = try })
	}
	for kind := range 22 {
		if kind != n.Kind {
			add(func(n *api.Note) { n.Kind = kind })
		}
	}
	for _, kind := range []int{-1, -n.Kind, 256 + n.Kind, math.MaxInt, math.MinInt} {
		add(func(n *api.Note) { n.Kind = kind })
	}
	for i := range n.Nums {
		add(func(n *api.Note) { n.Nums = n.Nums[:i] })
		add(func(n *api.Note) { n.Nums[i] = -1 })
		add(func(n *api.Note) { n.Nums[i] = math.MaxInt })
	}
	add(func(n *api.Note) { n.Nums = append(n.Nums, 1) })
	add(func(n *api.Note) { n.Nums = append(n.Nums, make([]int, 64)...) })
	add(func(n *api.Note) { n.Texts = append(n.Texts, "x") })
	add(func(n *api.Note) { n.Rows = append(n.Rows, nil) })
	add(func(n *api.Note) { n.Rows = append(n.Rows, []string{""}) })
	add(func(n *api.Note) { n.Rows = append(n.Rows, make([]string, 1<<10)) })
	if len(n.Rows) > 0 {
		add(func(n *api.Note) { n.Rows = nil })
		l = append(l, unlikeRow(n, rand.New(rand.NewSource(int64(len(n.Rows)))).Intn(len(n.Rows)))...)
	}
	return append(l, api.Note{}, api.Note{Kind: n.Kind}, api.Note{Kind: n.Kind, Nums: n.Nums[:1]})
}

// unlikeRow are notes of which one row is none.
func unlikeRow(n api.Note, i int) (l []api.Note) {
	row := n.Rows[i]
	add := func(row []string) {
		other := cloned(n)
		other.Rows[i] = row
		if !sameNote(n, other) {
			l = append(l, other)
		}
	}
	for k, text := range row {
		for _, s := range []string{"", " ", "X", "\xff", "?x", "_", text + " ", text + ".", "+" + text, strings.Repeat("a", 17)} {
			other := slices.Clone(row)
			other[k] = s
			add(other)
		}
		add(slices.Delete(slices.Clone(row), k, k+1))
		add(slices.Insert(slices.Clone(row), k, text))
	}
	add(nil)
	return l
}

// nobodies are from whom no note may come to a node.
func nobodies(w *world, to int) []int {
	return []int{to, -1, -to - 1, len(w.workers) + 1, 64 + len(w.workers), math.MaxInt, math.MinInt}
}

// vain lets nodes take notes of which nothing may come, ahead of one that is to come.
func (w *world) vain(m mail) {
	w.t.Helper()
	none := func(to, from int, n api.Note) {
		w.t.Helper()
		if out := w.give(to, from, n); len(out) != 0 {
			w.t.Fatalf("node %d took %s of %d, behind %d notes, and sent %v", to, brief(n), from, len(w.told), out)
		}
	}
	for _, n := range unlike(m.note) {
		none(m.to, m.from, n)
	}
	for _, from := range nobodies(w, m.to) {
		none(m.to, from, m.note)
	}
	for to := range len(w.workers) + 1 {
		for from := range len(w.workers) + 1 {
			// One worker's beginning note may be another one's, too.
			if from != m.from || to != m.to && m.note.Kind != 10 {
				none(to, from, m.note)
			}
		}
	}
	for _, o := range w.told {
		none(o.to, o.from, o.note)
	}
}

// Fl1: what is no note of this try, or not from a node that may send it, changes nothing: a try goes on as if it had not come.
func TestTakesNothing(t *testing.T) {
	r := rand.New(rand.NewSource(176))
	kinds := map[int]int{}
	for _, atoms := range []string{"ann p+ ?x . ?x q+ ?y . ?y q ?y", "?x p* ann . ?x p+ ?y . ?y q ?z", "?x (p|s)* ?y . hal s* ?y", "?x p* ivy . ann p ?z", "?x none ?y", "?x p ?y . ?y p ?z . ?z p ?x"} {
		for _, workers := range []int{1, 2, 3} {
			q := asking(t, r, atoms)
			stores, version := storesOf(t, factsOf(family), workers)
			seed := r.Int63()
			plain := begun(t, 4, version, q, stores, byChance(rand.New(rand.NewSource(seed))))
			want := plain.run()
			w := begun(t, 4, version, q, stores, byChance(rand.New(rand.NewSource(seed))))
			w.before = w.vain
			if r := w.run(); !sameReply(r, want) || !sameTold(w.told, plain.told) {
				t.Errorf("%s: behind notes of which nothing came: %v in %d notes, want %v in %d", atoms, r, len(w.told), want, len(plain.told))
			}
			for _, m := range w.told {
				kinds[m.note.Kind]++
				w.vain(m)
			}
			if r := w.reply(); !sameReply(r, want) {
				t.Errorf("%s: behind the end: %v, want %v", atoms, r, want)
			}
		}
	}
	if len(kinds) < 9 {
		t.Errorf("notes of these kinds alone: %v", kinds)
	}
}

// Fl1: the same, of a try that ends with too many rows.
func TestTakesNothingOfMany(t *testing.T) {
	q := parsed(t, "select ?x ?y where { ?x p* ?y }")
	stores, version := storesOf(t, ring(70, "p"), 2)
	w := begun(t, 4, version, q, stores, oldest)
	count := 0
	w.before = func(m mail) {
		if count++; count%40 == 0 || m.note.Kind > 16 || m.note.Kind == 12 {
			for _, n := range unlike(m.note) {
				if out := w.give(m.to, m.from, n); len(out) != 0 {
					t.Fatalf("node %d took %s, and sent %v", m.to, brief(n), out)
				}
			}
		}
	}
	if r := w.run(); r.Err != api.ErrMany || len(r.Rows) != 0 || r.Version != version {
		t.Errorf("%v", r)
	}
}

// Fl1: a worker's part takes notes of other workers ahead of the beginning note, and of the head none.
func TestAheadOfBeginning(t *testing.T) {
	r := rand.New(rand.NewSource(177))
	for _, late := range []int{1, 2, 3} {
		for _, atoms := range []string{"?x p+ ?y . ?y q* ?z", "?x p* ivy . ann p ?z", "ann p* ?x"} {
			next := last(func(m mail) bool { return m.to == late && m.note.Kind == 10 })
			held(t, factsOf(family), asking(t, r, atoms), 3, next)
		}
	}
}

// Two tries at once do not know of one another: the notes of one are none of the other, and both answer.
func TestTwoTries(t *testing.T) {
	r := rand.New(rand.NewSource(178))
	stores, version := storesOf(t, factsOf(family), 3)
	for _, l := range [][2]string{{"ann p+ ?x", "ann p+ ?x"}, {"?x p* ivy . ann p ?z", "?x q* ?y . ?y q ?z"}, {"?x p ?y", "?x p ?x"}} {
		var all [2]*world
		var want [2]api.Reply
		for i, atoms := range l {
			q := asking(t, r, atoms)
			want[i] = wanted(factsOf(family), q, version)
			all[i] = begun(t, 8+i, version, q, stores, byChance(r))
		}
		for i, w := range all {
			other := all[1-i]
			w.before = func(m mail) {
				if out := other.give(m.to, m.from, m.note); len(out) != 0 {
					t.Fatalf("a note of another try: %v, and %v was sent", m, out)
				}
			}
		}
		for len(all[0].first)+len(all[1].first) > 0 {
			if w := all[r.Intn(2)]; len(w.first) > 0 {
				w.step()
			}
		}
		for i, w := range all {
			if a := w.reply(); !sameReply(a, want[i]) {
				t.Errorf("the try of %s: %v, want %v", l[i], a, want[i])
			}
		}
	}
}
