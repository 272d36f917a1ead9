package flow_test

import (
	"math"
	"slices"
	"strings"
	"testing"

	"sinew/api"
	"sinew/flow"
	"sinew/store"
)

// The greatest number of a try, and of a version.
const most = 1 << 40

// some is a query that may be.
func some(t *testing.T) api.Query {
	t.Helper()
	return parsed(t, "select ?x where { ?x p+/q* ?y . ann (p|q)? ?x }")
}

// refused is that NewHead answers ErrArg, and nothing beside it.
func refused(t *testing.T, try, workers, version int, q api.Query) {
	t.Helper()
	if h, out, e := flow.NewHead(try, workers, version, q); h != nil || len(out) != 0 || e != api.ErrArg {
		t.Errorf("NewHead(%d, %d, %d): %t, %v, %d", try, workers, version, h != nil, out, e)
	}
}

// taken is that NewHead answers the head, and beginning notes, one to each worker, rising.
func taken(t *testing.T, try, workers, version int, q api.Query) []flow.Out {
	t.Helper()
	h, out, e := flow.NewHead(try, workers, version, q)
	if h == nil || len(out) != workers || e != api.OK {
		t.Fatalf("NewHead(%d, %d, %d): %t, %d notes, %d", try, workers, version, h != nil, len(out), e)
	}
	for i, o := range out {
		if o.To != i+1 || o.Note.Kind != 10 || len(o.Note.Nums) == 0 || o.Note.Nums[0] != try {
			t.Fatalf("the beginning note %d of NewHead(%d, %d, %d): %v", i, try, workers, version, o)
		}
	}
	if r, ok := h.Done(); ok || !sameReply(r, api.Reply{}) {
		t.Fatalf("a head that nobody has answered: %v, %t", r, ok)
	}
	return out
}

// Example 1: two workers, a p b with one, b p c with the other.
func TestExample(t *testing.T) {
	facts := factsOf("a p b, b p c")
	if isOf(facts[0], 1, 2) == isOf(facts[1], 1, 2) {
		t.Fatal("both live with one worker")
	}
	r := held(t, facts, parsed(t, "select ?x where { a p+ ?x }"), 2, oldest)
	if r.Err != api.OK || !sameRows(r.Rows, [][]string{{"b"}, {"c"}}) {
		t.Errorf("%v", r)
	}
}

// Fl1: NewHead at the limits, and beyond.
func TestHeadLimits(t *testing.T) {
	q := some(t)
	for _, try := range []int{1, 2, most - 1, most} {
		taken(t, try, 2, 1, q)
	}
	for _, try := range []int{0, -1, most + 1, math.MinInt, math.MaxInt} {
		refused(t, try, 2, 1, q)
	}
	for workers := 1; workers <= 64; workers++ {
		taken(t, 1, workers, 1, q)
	}
	for _, workers := range []int{0, -1, 65, 66, math.MinInt, math.MaxInt} {
		refused(t, 1, workers, 1, q)
	}
	for _, version := range []int{0, 1, most - 1, most} {
		taken(t, 1, 2, version, q)
	}
	for _, version := range []int{-1, most + 1, math.MinInt, math.MaxInt} {
		refused(t, 1, 2, version, q)
	}
	taken(t, most, 64, most, q)
}

// wrongQueries are queries whose requests layer 9 refuses.
func wrongQueries(t *testing.T) (l []api.Query) {
	for _, change := range []func(q *api.Query){
		func(q *api.Query) { q.Vars = nil },
		func(q *api.Query) { q.Vars = []string{"x", "x"} },
		func(q *api.Query) { q.Vars = []string{"x", "z"} },
		func(q *api.Query) { q.Vars = []string{"z"} },
		func(q *api.Query) { q.Vars = []string{"ann"} },
		func(q *api.Query) { q.Vars = []string{"X"} },
		func(q *api.Query) { q.Vars = []string{"x", "y", "x", "y", "x", "y", "x"} },
		func(q *api.Query) { q.Atoms = nil },
		func(q *api.Query) { q.Atoms = slices.Repeat(q.Atoms, 4)[:7] },
		func(q *api.Query) { q.Atoms[1].S.Name = "" },
		func(q *api.Query) { q.Atoms[1].S.Name = "?x" },
		func(q *api.Query) { q.Atoms[1].S.Name = strings.Repeat("a", 17) },
		func(q *api.Query) { q.Atoms[0].Path = api.Path{} },
		func(q *api.Query) { q.Atoms[0].Path = api.Path{Kind: api.PathWord, Word: "P"} },
		func(q *api.Query) { q.Atoms[0].Path = api.Path{Kind: api.PathStar} },
		func(q *api.Query) { q.Atoms[0].Path.Kids = q.Atoms[0].Path.Kids[:1] },
		func(q *api.Query) {
			q.Atoms[0].Path.Kids = slices.Repeat([]api.Path{{Kind: api.PathWord, Word: "p"}}, 25)
		},
		func(q *api.Query) {
			for range 11 {
				q.Atoms[0].Path = api.Path{Kind: api.PathStar, Kids: []api.Path{q.Atoms[0].Path}}
			}
		},
	} {
		q := some(t)
		change(&q)
		l = append(l, q)
	}
	return append(l, api.Query{})
}

// Fl1: NewHead of queries that layer 9 refuses.
func TestHeadQueries(t *testing.T) {
	for _, q := range wrongQueries(t) {
		refused(t, 1, 2, 1, q)
		refused(t, 0, 65, -1, q)
	}
	// One more of what was refused: as many as may be.
	q := some(t)
	q.Atoms = slices.Repeat(q.Atoms, 3)
	q.Vars = []string{"y", "x"}
	for i := range 9 {
		q.Atoms[0].Path = api.Path{Kind: api.PathStar + i%3, Kids: []api.Path{q.Atoms[0].Path}}
	}
	q.Atoms[1].Path = api.Path{Kind: api.PathAlt, Kids: slices.Repeat([]api.Path{{Kind: api.PathWord, Word: "p"}}, 24)}
	taken(t, 1, 2, 1, q)
}

// beginning is the beginning note of a query at a version, and a store that has it.
func beginning(t *testing.T, version int) (api.Note, *store.Store) {
	t.Helper()
	s := store.New()
	for v := 1; v <= 3; v++ {
		s.Apply(v, []api.Change{{T: api.Triple{S: "ann", P: "p", O: "bob"}}})
	}
	return taken(t, 5, 2, version, some(t))[0].Note, s
}

// madeNo is that NewWorker answers an error, and nothing beside it.
func madeNo(t *testing.T, name string, id, workers int, n api.Note, s *store.Store, want api.Errno) {
	t.Helper()
	if w, e := flow.NewWorker(id, workers, n, s); w != nil || e != want {
		t.Errorf("%s: NewWorker(%d, %d, %v): %t, %d, want %d", name, id, workers, n, w != nil, e, want)
	}
}

// Fl1: NewWorker at the limits, and beyond.
func TestWorkerLimits(t *testing.T) {
	n, s := beginning(t, 2)
	for workers := 1; workers <= 64; workers++ {
		for id := 1; id <= workers; id++ {
			if w, e := flow.NewWorker(id, workers, n, s); w == nil || e != api.OK {
				t.Fatalf("NewWorker(%d, %d): %t, %d", id, workers, w != nil, e)
			}
		}
		for _, id := range []int{0, -1, workers + 1, 65, math.MinInt, math.MaxInt} {
			madeNo(t, "id", id, workers, n, s, api.ErrArg)
		}
	}
	for _, workers := range []int{0, -1, 65, 66, math.MinInt, math.MaxInt} {
		for _, id := range []int{0, 1, 2, 64, 65, workers} {
			madeNo(t, "workers", id, workers, n, s, api.ErrArg)
		}
	}
}

// Fl1: stores that nobody made, and versions that there are, and are not.
func TestWorkerStores(t *testing.T) {
	n, s := beginning(t, 2)
	other := *s
	for _, none := range []*store.Store{nil, {}, &other} {
		madeNo(t, "no store", 1, 2, n, none, api.ErrArg)
	}
	for version := range 4 {
		n, _ := beginning(t, version)
		if w, e := flow.NewWorker(1, 2, n, s); w == nil || e != api.OK {
			t.Errorf("the version %d of 3: %d", version, e)
		}
	}
	for _, version := range []int{4, 5, most} {
		n, _ := beginning(t, version)
		madeNo(t, "a version that there is not", 1, 2, n, s, api.ErrPast)
		madeNo(t, "a version that there is not", 1, 2, n, store.New(), api.ErrPast)
		// ErrArg comes first, whatever else is wrong.
		madeNo(t, "id", 3, 2, n, s, api.ErrArg)
		madeNo(t, "workers", 1, 65, n, s, api.ErrArg)
		madeNo(t, "no store", 1, 2, n, nil, api.ErrArg)
		madeNo(t, "no store", 1, 2, n, &store.Store{}, api.ErrArg)
		n.Kind = 11
		madeNo(t, "no beginning note", 1, 2, n, s, api.ErrArg)
	}
}

// wrongBeginnings are notes that are like a beginning note, and none.
func wrongBeginnings(n api.Note) (l []api.Note) {
	add := func(change func(n *api.Note)) {
		other := cloned(n)
		change(&other)
		if !sameNote(n, other) {
			l = append(l, other)
		}
	}
	for _, kind := range []int{0, -10, 1, 9, 11, 12, 13, 14, 15, 16, 17, 18, 19, 20, 255, 256, 266, math.MaxInt} {
		add(func(n *api.Note) { n.Kind = kind })
	}
	for i := range n.Nums {
		add(func(n *api.Note) { n.Nums = n.Nums[:i] })
		for _, num := range []int{-1, math.MinInt, math.MaxInt, most + 1} {
			add(func(n *api.Note) { n.Nums[i] = num })
		}
	}
	add(func(n *api.Note) { n.Nums[0] = 0 })
	add(func(n *api.Note) { n.Nums[0]++ })
	add(func(n *api.Note) { n.Nums[1]-- })
	add(func(n *api.Note) { n.Nums = append(n.Nums, 0) })
	add(func(n *api.Note) { n.Nums = append(n.Nums, n.Nums...) })
	texts := []string{"", " ", "x", "z", "X", "?", "?z", "p", "p+", "select", "\xff", strings.Repeat("a", 17), strings.Repeat("a", 1<<17), "p ?x . ?x p", "p ", " p", "(p)", "p }", "p } select", "p\n"}
	lists := func(list func(n *api.Note) *[]string) {
		at := *list(&n)
		for i := range at {
			for _, s := range append(texts, at[i]+" ", at[i]+"X", "("+at[i]+")", at[i]+".") {
				add(func(n *api.Note) { (*list(n))[i] = s })
			}
			add(func(n *api.Note) { *list(n) = slices.Delete(*list(n), i, i+1) })
			add(func(n *api.Note) { *list(n) = slices.Insert(*list(n), i, at[i]) })
		}
		add(func(n *api.Note) { *list(n) = nil })
		add(func(n *api.Note) { *list(n) = append(*list(n), "p") })
		add(func(n *api.Note) { *list(n) = make([]string, 1<<16) })
	}
	lists(func(n *api.Note) *[]string { return &n.Texts })
	for i := range n.Rows {
		lists(func(n *api.Note) *[]string { return &n.Rows[i] })
		add(func(n *api.Note) { n.Rows[i] = nil })
	}
	add(func(n *api.Note) { n.Rows = nil })
	add(func(n *api.Note) { n.Rows = append(n.Rows, nil) })
	add(func(n *api.Note) { n.Rows = slices.Repeat(n.Rows, 4)[:7] })
	add(func(n *api.Note) { n.Rows = make([][]string, 1<<16) })
	return append(l, api.Note{}, api.Note{Kind: 10}, api.Note{Kind: 10, Nums: []int{5}}, api.Note{Kind: 10, Nums: []int{5, 2}})
}

// cloned is a note of memory of its own.
func cloned(n api.Note) api.Note {
	other := api.Note{Kind: n.Kind, Nums: slices.Clone(n.Nums), Texts: slices.Clone(n.Texts)}
	for _, row := range n.Rows {
		other.Rows = append(other.Rows, slices.Clone(row))
	}
	return other
}

// Fl1: notes that are no beginning notes, whatever is other in them.
func TestWorkerBeginnings(t *testing.T) {
	n, s := beginning(t, 2)
	for _, other := range wrongBeginnings(n) {
		if w, e := flow.NewWorker(1, 2, other, s); w != nil || e != api.ErrArg {
			t.Errorf("NewWorker(%s): %t, %d", brief(other), w != nil, e)
		}
		first, _ := flow.NewWorker(1, 2, n, s)
		if out := first.Take(0, other); len(out) != 0 {
			t.Errorf("%s was taken as the beginning note, which is another one: %v", brief(other), out)
		}
		if out := first.Take(0, n); len(out) == 0 {
			t.Errorf("behind %s the beginning note was not taken", brief(other))
		}
	}
}

// Fl1: the worker's part begins with the beginning note: the head's note, and not another try's; once.
func TestBegins(t *testing.T) {
	n, s := beginning(t, 2)
	w, _ := flow.NewWorker(1, 2, n, s)
	other := taken(t, 6, 2, 2, some(t))[0].Note
	for _, from := range []int{1, 2, 3, -1, 64, 65, math.MinInt, math.MaxInt} {
		if out := w.Take(from, n); len(out) != 0 {
			t.Errorf("the beginning note of %d: %v", from, out)
		}
	}
	if out := w.Take(0, other); len(out) != 0 {
		t.Errorf("the beginning note of another try: %v", out)
	}
	if out := w.Take(0, n); len(out) == 0 {
		t.Error("nothing came of the beginning note")
	}
	for range 3 {
		if out := w.Take(0, n); len(out) != 0 {
			t.Errorf("the beginning note again: %v", out)
		}
	}
}

// Fl2: the version that is asked of, not a later one, nor an earlier one.
func TestVersions(t *testing.T) {
	stores := []*store.Store{store.New(), store.New()}
	apply := func(version int, gone bool, s string) {
		for i, x := range stores {
			var l []api.Change
			for _, f := range factsOf(s) {
				if isOf(f, i+1, 2) {
					l = append(l, api.Change{Gone: gone, T: f})
				}
			}
			x.Apply(version, l)
		}
	}
	apply(1, false, "a p b, b p c")
	apply(2, false, "c p d")
	apply(3, true, "a p b")
	apply(4, false, "x p y, y p a")
	q := parsed(t, "select ?x ?y where { ?x p+ ?y }")
	for version, facts := range []string{"", "a p b, b p c", "a p b, b p c, c p d", "b p c, c p d", "b p c, c p d, x p y, y p a"} {
		w := begun(t, 3, version, q, stores, oldest)
		if r, want := w.run(), wanted(factsOf(facts), q, version); !sameReply(r, want) {
			t.Errorf("of the version %d: %v, want %v", version, r, want)
		}
	}
	// What changes while the try goes on does not count.
	w := begun(t, 3, 4, q, stores, oldest)
	version := 4
	w.before = func(mail) {
		version++
		apply(version, version%2 == 1, "b p c, c p e, e p a")
	}
	if r, want := w.run(), wanted(factsOf("b p c, c p d, x p y, y p a"), q, 4); !sameReply(r, want) {
		t.Errorf("changed meanwhile: %v, want %v", r, want)
	}
}

// Fl2: Done answers the same, however often it is asked, and whatever comes later on.
func TestDoneStays(t *testing.T) {
	facts := factsOf(family)
	q := some(t)
	stores, version := storesOf(t, facts, 3)
	w := begun(t, 9, version, q, stores, oldest)
	r := w.run()
	for range 3 {
		for _, m := range w.told {
			if m.to == 0 {
				if out := w.head.Take(m.from, m.note); len(out) != 0 {
					t.Fatalf("the head was done, and sent %v", out)
				}
			}
		}
		if again := w.reply(); !sameReply(again, r) {
			t.Errorf("%v, and %v behind that", r, again)
		}
	}
}
