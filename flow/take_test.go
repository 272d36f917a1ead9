package flow_test

import (
	"math"
	"math/rand"
	"slices"
	"strings"
	"testing"

	"sinew/api"
)

// unlike are notes that are like one of a try, and none of it; from whom they come is right.
func unlike(n api.Note) (l []api.Note) {
	add := func(change func(n *api.Note)) {
		other := cloned(n)
		change(&other)
		l = append(l, other)
	}
	for _, try := range []int{n.Nums[0] - 1, n.Nums[0] + 1, 0, -1, most, math.MaxInt, math.MinInt} {
		add(func(n *api.Note) { n.Nums[0] = try })
	}
	for kind := range 22 {
		if kind != n.Kind {
			add(func(n *api.Note) { n.Kind = kind })
		}
	}
	for _, kind := range []int{-1, -n.Kind, 256 + n.Kind, math.MaxInt, math.MinInt} {
		add(func(n *api.Note) { n.Kind = kind })
	}
	for i := range n.Nums {
		add(func(n *api.Note) { n.Nums = n.Nums[:i] })
		add(func(n *api.Note) { n.Nums[i] = -1 })
		add(func(n *api.Note) { n.Nums[i] = math.MaxInt })
	}
	if n.Kind == steps && len(n.Nums) > 5 {
		// More cells than there are workers.
		add(func(n *api.Note) { n.Nums[len(n.Nums)-1] = 64 })
		add(func(n *api.Note) { n.Nums[5] = 0 })
	}
	add(func(n *api.Note) { n.Nums = append(n.Nums, 1) })
	add(func(n *api.Note) { n.Nums = append(n.Nums, make([]int, 64)...) })
	add(func(n *api.Note) { n.Texts = append(n.Texts, "x") })
	add(func(n *api.Note) { n.Rows = append(n.Rows, nil) })
	add(func(n *api.Note) { n.Rows = append(n.Rows, []string{""}) })
	add(func(n *api.Note) { n.Rows = append(n.Rows, make([]string, 1<<10)) })
	if len(n.Rows) > 0 {
		add(func(n *api.Note) { n.Rows = nil })
		l = append(l, unlikeRow(n, rand.New(rand.NewSource(int64(len(n.Rows)))).Intn(len(n.Rows)))...)
	}
	return append(l, api.Note{}, api.Note{Kind: n.Kind}, api.Note{Kind: n.Kind, Nums: n.Nums[:1]})
}

// unlikeRow are notes of which one row is none.
func unlikeRow(n api.Note, i int) (l []api.Note) {
	row := n.Rows[i]
	add := func(row []string) {
		other := cloned(n)
		other.Rows[i] = row
		if !sameNote(n, other) {
			l = append(l, other)
		}
	}
	for k, text := range row {
		wrong := []string{"", " ", "X", "\xff", "?x", "_", text + " ", text + ".", "+" + text, strings.Repeat("a", 17)}
		if n.Kind == ways && k < 2 || n.Kind == pairs && k < 1 {
			// A number: of a search, or of places, a bit for each.
			wrong = append(wrong, "0"+text, "-"+text, "8388608", "16777215", "16777216", "99999999999999999999", "a")
		}
		if n.Kind == ways && k == 1 {
			wrong = append(wrong, "0")
		}
		for _, s := range wrong {
			other := slices.Clone(row)
			other[k] = s
			add(other)
		}
		add(slices.Delete(slices.Clone(row), k, k+1))
		add(slices.Insert(slices.Clone(row), k, text))
	}
	add(nil)
	return l
}

// nobodies are from whom no note may come to a node.
func nobodies(w *world, to int) []int {
	return []int{to, -1, -to - 1, len(w.workers) + 1, 64 + len(w.workers), math.MaxInt, math.MinInt}
}

// vain lets nodes take notes of which nothing may come, ahead of one that is to come.
func (w *world) vain(m mail) {
	w.t.Helper()
	none := func(to, from int, n api.Note) {
		w.t.Helper()
		if out := w.give(to, from, n); len(out) != 0 {
			w.t.Fatalf("node %d took %s of %d, behind %d notes, and sent %v", to, brief(n), from, len(w.told), out)
		}
	}
	for _, n := range unlike(m.note) {
		none(m.to, m.from, n)
	}
	for _, from := range nobodies(w, m.to) {
		none(m.to, from, m.note)
	}
	for to := range len(w.workers) + 1 {
		for from := range len(w.workers) + 1 {
			// One worker's beginning note may be another one's, too.
			if from != m.from || to != m.to && m.note.Kind != 10 {
				none(to, from, m.note)
			}
		}
	}
	for _, o := range w.told {
		none(o.to, o.from, o.note)
	}
	w.forgeries(m, none)
}

// forged is a note as the next one of a line.
func (w *world) forged(from, to int, n api.Note) api.Note {
	n = cloned(n)
	number := 1
	for _, m := range w.told {
		if m.from == from && m.to == to {
			number++
		}
	}
	copy(n.Nums[1:], []int{from, to, number})
	return n
}

// forgeries tells notes that are the next ones of their lines, but are such as are not sent there, or not as yet, or no more; all are like one that is to come, or like those that came.
func (w *world) forgeries(m mail, none func(to, from int, n api.Note)) {
	w.t.Helper()
	forge := func(from, to int, n api.Note) {
		if from != to {
			none(to, from, w.forged(from, to, n))
		}
	}
	if m.note.Kind == begins {
		if slices.ContainsFunc(w.told, func(o mail) bool { return o.to == m.to }) {
			return
		}
		// Ahead of its beginning note a worker takes nothing.
		for kind := range 20 {
			for from := range len(w.workers) + 1 {
				for _, more := range [][]int{nil, {1}, {2}, {3}} {
					for _, row := range [][]string{nil, {}, {"ann"}, {"ann", "ann"}, {"0", "ann", "ann"}, {"0", "1", "ann", "ann"}} {
						n := api.Note{Kind: kind, Nums: append([]int{w.try, 0, 0, 0}, more...)}
						if row != nil {
							n.Rows = [][]string{row}
						}
						none(m.to, from, w.forged(from, m.to, n))
					}
				}
			}
		}
		return
	}
	none(m.to, m.to, w.forged(m.to, m.to, m.note))
	for id := range w.workers {
		id++
		switch kind := m.note.Kind; kind {
		case steps:
			forge(id, 0, m.note)
			forge(id, m.to, m.note)
		case vertices, edges, ways, pairs:
			forge(id, 0, m.note)
			forge(0, id, m.note)
			if kind != pairs && id != m.to {
				forge(m.from, id, m.note)
			}
		case sizes, rows, many:
			forge(0, id, m.note)
			forge(m.from, id, m.note)
			if kind != sizes && !w.joins(id) {
				forge(id, 0, m.note)
			}
		}
	}
	_, done := w.head.Done()
	for _, o := range w.told {
		over := false
		switch o.note.Kind {
		case vertices, edges:
			over = w.stepOf(o.to) > toSpread
		case ways:
			over = w.stepOf(o.to) > toSearch
		case pairs:
			over = w.stepOf(o.to) > toShare
		case sizes:
			over = done || w.stepOf(0) > toCount
		case rows, many, steps:
			over = done
		}
		if over {
			forge(o.from, o.to, o.note)
		}
	}
}

// joins tells whether a worker was told to join, be it that it heard of it or not.
func (w *world) joins(id int) bool {
	is := func(m mail) bool { return m.to == id && m.note.Kind == steps && m.note.Nums[4] == toJoin }
	return slices.ContainsFunc(w.told, is) || slices.ContainsFunc(w.lines[line{0, id}], is)
}

// stepOf is the last step of which a node was told; of the head the last one of which it told.
func (w *world) stepOf(id int) int {
	step := 0
	look := func(l []mail) {
		for _, m := range l {
			if m.note.Kind == steps && (m.to == id || id == 0) {
				step = max(step, m.note.Nums[4])
			}
		}
	}
	look(w.told)
	if id == 0 {
		for worker := range w.workers {
			look(w.lines[line{0, worker + 1}])
		}
	}
	return step
}

// Fl1: what is no note of this try, or not from a node that may send it, changes nothing: a try goes on as if it had not come.
func TestTakesNothing(t *testing.T) {
	r := rand.New(rand.NewSource(176))
	kinds := map[int]int{}
	for _, atoms := range []string{"ann p+ ?x . ?x q+ ?y . ?y q ?y", "?x p* ann . ?x p+ ?y . ?y q ?z", "?x (p|s)* ?y . hal s* ?y", "?x p* ivy . ann p ?z", "?x none ?y", "?x p ?y . ?y p ?z . ?z p ?x", "ann p ?x", "?x p* ?y"} {
		for _, workers := range []int{1, 2, 3} {
			q := asking(t, r, atoms)
			stores, version := storesOf(t, factsOf(family), workers)
			seed := r.Int63()
			plain := begun(t, 4, version, q, stores, byChance(rand.New(rand.NewSource(seed))))
			want := plain.run()
			w := begun(t, 4, version, q, stores, byChance(rand.New(rand.NewSource(seed))))
			w.before = w.vain
			if r := w.run(); !sameReply(r, want) || !sameTold(w.told, plain.told) {
				t.Errorf("%s: behind notes of which nothing came: %v in %d notes, want %v in %d", atoms, r, len(w.told), want, len(plain.told))
			}
			for _, m := range w.told {
				kinds[m.note.Kind]++
				w.vain(m)
			}
			if r := w.reply(); !sameReply(r, want) {
				t.Errorf("%s: behind the end: %v, want %v", atoms, r, want)
			}
		}
	}
	if len(kinds) < 9 {
		t.Errorf("notes of these kinds alone: %v", kinds)
	}
}

// Fl1: the same, of a try that ends with too many rows.
func TestTakesNothingOfMany(t *testing.T) {
	q := parsed(t, "select ?x ?y where { ?x p* ?y }")
	stores, version := storesOf(t, ring(95, "p"), 2)
	w := begun(t, 4, version, q, stores, oldest)
	count, manies := 0, 0
	w.before = func(m mail) {
		if count++; count%40 == 0 || m.note.Kind >= sizes || m.note.Kind == steps {
			w.vain(m)
		}
		if m.note.Kind == many {
			manies++
		}
	}
	if r := w.run(); manies == 0 || r.Err != api.ErrMany || len(r.Rows) != 0 || r.Version != version {
		t.Errorf("%v", r)
	}
}

// Fl1: a worker's part begins with the beginning note, be it late: nothing is sent there ahead of it, so that the part need not be there.
func TestAheadOfBeginning(t *testing.T) {
	r := rand.New(rand.NewSource(177))
	for _, late := range []int{1, 2, 3} {
		for _, atoms := range []string{"?x p+ ?y . ?y q* ?z", "?x p* ivy . ann p ?z", "ann p* ?x"} {
			q := asking(t, r, atoms)
			stores, version := storesOf(t, factsOf(family), 3)
			begun := begun(t, 4, version, q, stores, last(func(m mail) bool { return m.to == late }))
			there := false
			begun.before = func(m mail) {
				if m.to == late && !there {
					there = m.note.Kind == begins
					if !there {
						t.Errorf("%s: %v comes ahead of the beginning note", atoms, m)
					}
				}
			}
			if r, want := begun.run(), wanted(factsOf(family), q, version); !sameReply(r, want) || !there {
				t.Errorf("%s: %v, want %v", atoms, r, want)
			}
		}
	}
}

// Two tries at once do not know of one another: the notes of one are none of the other, and both answer.
func TestTwoTries(t *testing.T) {
	r := rand.New(rand.NewSource(178))
	stores, version := storesOf(t, factsOf(family), 3)
	for _, l := range [][2]string{{"ann p+ ?x", "ann p+ ?x"}, {"?x p* ivy . ann p ?z", "?x q* ?y . ?y q ?z"}, {"?x p ?y", "?x p ?x"}} {
		var all [2]*world
		var want [2]api.Reply
		for i, atoms := range l {
			q := asking(t, r, atoms)
			want[i] = wanted(factsOf(family), q, version)
			all[i] = begun(t, 8+i, version, q, stores, byChance(r))
		}
		for i, w := range all {
			other := all[1-i]
			w.before = func(m mail) {
				if out := other.give(m.to, m.from, m.note); len(out) != 0 {
					t.Fatalf("a note of another try: %v, and %v was sent", m, out)
				}
			}
		}
		for len(all[0].first)+len(all[1].first) > 0 {
			if w := all[r.Intn(2)]; len(w.first) > 0 {
				w.step()
			}
		}
		for i, w := range all {
			if a := w.reply(); !sameReply(a, want[i]) {
				t.Errorf("the try of %s: %v, want %v", l[i], a, want[i])
			}
		}
	}
}
