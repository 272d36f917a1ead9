package flow_test

import (
	"math"
	"math/rand"
	"runtime"
	"slices"
	"strings"
	"sync"
	"testing"

	"sinew/api"
	"sinew/flow"
)

// notGiven is that parts that nobody made answer nothing, whatever comes.
func notGiven(t *testing.T, name string, h *flow.Head, w *flow.Worker, l []mail) {
	t.Helper()
	for range 2 {
		for _, m := range l {
			if out := h.Take(m.from, m.note); len(out) != 0 {
				t.Errorf("%s: a head's Take: %v", name, out)
			}
			if out := w.Take(m.from, m.note); len(out) != 0 {
				t.Errorf("%s: a worker's Take: %v", name, out)
			}
		}
		if r, ok := h.Done(); ok || !sameReply(r, api.Reply{}) {
			t.Errorf("%s: Done: %v, %t", name, r, ok)
		}
	}
}

// R1: nil, and parts that NewHead and NewWorker did not give; a copy of one that they gave is none of these either, and changes nothing of it.
func TestNotGiven(t *testing.T) {
	q := some(t)
	stores, version := storesOf(t, factsOf(family), 2)
	plain := begun(t, 4, version, q, stores, oldest)
	want := plain.run()
	all := append(slices.Clone(plain.told), mail{from: 1}, mail{from: -1, note: api.Note{Kind: 10, Nums: []int{4}}})
	notGiven(t, "nil", nil, nil, all)
	notGiven(t, "zero", &flow.Head{}, &flow.Worker{}, all)
	notGiven(t, "new", new(flow.Head), new(flow.Worker), all)
	w := begun(t, 4, version, q, stores, oldest)
	w.before = func(m mail) {
		for _, x := range w.workers {
			h, x := *w.head, *x
			notGiven(t, "a copy", &h, &x, []mail{m})
		}
	}
	if r := w.run(); !sameReply(r, want) || !sameTold(w.told, plain.told) {
		t.Errorf("its copies were asked, and it answers %v, want %v", r, want)
	}
	h, x := *w.head, *w.workers[0]
	notGiven(t, "a copy behind the end", &h, &x, all)
}

// R1: any numbers, and notes of all kinds: no call panics.
func TestAtAll(t *testing.T) {
	r := rand.New(rand.NewSource(179))
	numbers := []int{0, 1, 2, 3, 64, 65, -1, most, most + 1, math.MinInt, math.MaxInt}
	one := func() int { return numbers[r.Intn(len(numbers))] }
	text := func() string {
		return []string{"", "x", "?x", "p", "p+", "\xff", "1", "(", strings.Repeat("p", 5000)}[r.Intn(9)]
	}
	note := func() api.Note {
		n := api.Note{Kind: 9 + r.Intn(12)}
		for range r.Intn(8) {
			n.Nums = append(n.Nums, one())
		}
		for range r.Intn(3) {
			n.Texts = append(n.Texts, text())
		}
		for range r.Intn(4) {
			var row []string
			for range r.Intn(5) {
				row = append(row, text())
			}
			n.Rows = append(n.Rows, row)
		}
		return n
	}
	stores, version := storesOf(t, factsOf(family), 2)
	w := begun(t, 1, version, some(t), stores, oldest)
	for range 20000 {
		flow.NewHead(one(), one(), one(), some(t))
		flow.NewHead(1, 2, 3, api.Query{Vars: []string{text()}, Atoms: []api.Atom{{S: api.Term{Var: r.Intn(2) == 0, Name: text()}, Path: api.Path{Kind: one(), Word: text()}}}})
		flow.NewWorker(one(), one(), note(), stores[0])
		if len(w.first) > 0 && r.Intn(100) == 0 {
			w.step()
		}
		w.head.Take(one(), note())
		w.workers[r.Intn(2)].Take(one(), note())
	}
	if r, want := w.run(), wanted(factsOf(family), some(t), version); !sameReply(r, want) {
		t.Errorf("%v, want %v", r, want)
	}
	// A path that has itself as a kid.
	round := api.Path{Kind: api.PathStar, Kids: make([]api.Path, 1)}
	round.Kids[0] = round
	refused(t, 1, 2, 3, api.Query{Vars: []string{"x"}, Atoms: []api.Atom{{S: api.Term{Var: true, Name: "x"}, Path: round, O: api.Term{Var: true, Name: "x"}}}})
}

// roomy is a list with something in the room behind its end.
func roomy[T any](l []T, behind T) []T {
	return append(slices.Clone(l), behind, behind)[:len(l)]
}

// spacious is a note whose lists have something behind their ends.
func spacious(n api.Note) api.Note {
	var rows [][]string
	for _, row := range n.Rows {
		rows = append(rows, roomy(row, "behind"))
	}
	return api.Note{Kind: n.Kind, Nums: roomy(n.Nums, 77), Texts: roomy(n.Texts, "behind"), Rows: roomy(rows, []string{"behind"})}
}

// isSpacious tells whether a spacious note is as it was made of another one.
func isSpacious(n, of api.Note) bool {
	behind := func(l []string) bool { return slices.Equal(l[len(l):len(l)+2], []string{"behind", "behind"}) }
	room := n.Rows[len(n.Rows) : len(n.Rows)+2]
	return sameNote(n, of) && slices.Equal(n.Nums[len(n.Nums):len(n.Nums)+2], []int{77, 77}) && behind(n.Texts) &&
		!slices.ContainsFunc(n.Rows, func(row []string) bool { return !behind(row) }) && sameRows(room, [][]string{{"behind"}, {"behind"}})
}

// spoil writes over all that a note's lists have, and behind their ends.
func spoil(n api.Note) {
	for i := range n.Nums[:cap(n.Nums)] {
		n.Nums[:cap(n.Nums)][i] = 77
	}
	spoilTexts(n.Texts)
	for _, row := range n.Rows {
		spoilTexts(row)
	}
	for i := range n.Rows[:cap(n.Rows)] {
		n.Rows[:cap(n.Rows)][i] = []string{"spoilt"}
	}
}

func spoilTexts(l []string) {
	for i := range l[:cap(l)] {
		l[:cap(l)][i] = "spoilt"
	}
}

// spoilPath writes over all that a path's lists have.
func spoilPath(p api.Path) {
	for i, kid := range p.Kids {
		spoilPath(kid)
		p.Kids[i] = api.Path{Kind: 77}
	}
}

// R3: what is handed in is not changed, nor what lies behind its lists' ends; and if it is changed later on, nothing else is.
func TestHandedIn(t *testing.T) {
	for _, atoms := range []string{"ann p+/q* ?x . ?x q+ ?y . ?y q ?y", "?x p* ivy . ann p ?z", "?x (p|s)* ?y . hal s* ?y"} {
		r := rand.New(rand.NewSource(180))
		q := asking(t, r, atoms)
		stores, version := storesOf(t, factsOf(family), 3)
		plain := begun(t, 4, version, q, stores, oldest)
		want := plain.run()
		// The query.
		given, was := q, textOf(q)
		given.Vars, given.Atoms = roomy(q.Vars, "behind"), roomy(q.Atoms, api.Atom{})
		h, out, _ := flow.NewHead(4, 3, version, given)
		if textOf(given) != was || given.Vars[:len(q.Vars)+1][len(q.Vars)] != "behind" || given.Atoms[:len(q.Atoms)+1][len(q.Atoms)].Path.Kind != 0 {
			t.Errorf("%s: NewHead has changed the query", atoms)
		}
		spoilTexts(given.Vars)
		for i, a := range given.Atoms {
			spoilPath(a.Path)
			given.Atoms[i] = api.Atom{}
		}
		w := &world{t: t, try: 4, version: version, head: h, next: oldest, lines: map[line][]mail{}}
		w.send(0, kept(out))
		// The beginning notes.
		for i, s := range stores {
			n := spacious(out[i].Note)
			x, _ := flow.NewWorker(i+1, 3, n, s)
			if !isSpacious(n, out[i].Note) {
				t.Errorf("%s: NewWorker has changed the beginning note", atoms)
			}
			spoil(n)
			w.workers = append(w.workers, x)
		}
		for _, o := range out {
			spoil(o.Note)
		}
		// All others, and what is answered.
		for len(w.first) > 0 {
			m := w.take(w.next(w.first))
			w.told = append(w.told, m)
			n := spacious(m.note)
			out := w.give(m.to, m.from, n)
			if !isSpacious(n, m.note) {
				t.Errorf("%s: Take has changed %s", atoms, brief(m.note))
			}
			spoil(n)
			w.send(m.to, kept(out))
			for _, o := range out {
				spoil(o.Note)
			}
		}
		reply := w.reply()
		if !sameReply(reply, want) || !sameTold(w.told, plain.told) {
			t.Errorf("%s: all was written over, and: %v, want %v", atoms, reply, want)
		}
		for _, row := range reply.Rows {
			spoilTexts(row)
		}
		if again := w.reply(); !sameReply(again, want) {
			t.Errorf("%s: a reply was written over, and the next one is %v, want %v", atoms, again, want)
		}
	}
}

// kept are notes of memory of their own.
func kept(out []flow.Out) (l []flow.Out) {
	for _, o := range out {
		l = append(l, flow.Out{To: o.To, Note: cloned(o.Note)})
	}
	return l
}

// R3: no two lists of an answer share memory.
func TestAnswersShareNothing(t *testing.T) {
	q := parsed(t, "select ?x ?y where { ?x p* ?y . ?y (p|q)* ?x . ?z r* fay }")
	stores, version := storesOf(t, factsOf(family), 8)
	w := begun(t, 4, version, q, stores, oldest)
	apart := func(out []flow.Out) {
		was := kept(out)
		for i := range out {
			spoil(out[i].Note)
			for k := i + 1; k < len(out); k++ {
				if !sameNote(out[k].Note, was[k].Note) {
					t.Fatalf("the notes %d and %d share memory: %v", i, k, was[k])
				}
			}
		}
		for _, o := range was {
			for i, row := range o.Note.Rows {
				spoilTexts(row)
				for _, other := range o.Note.Rows[i+1:] {
					if slices.Contains(other, "spoilt") {
						t.Fatal("two rows share memory")
					}
				}
			}
		}
	}
	_, out, _ := flow.NewHead(4, 8, version, q)
	apart(out)
	for len(w.first) > 0 {
		m := w.take(w.next(w.first))
		out := w.give(m.to, m.from, m.note)
		w.send(m.to, kept(out))
		apart(out)
	}
	r := w.reply()
	for i, row := range r.Rows {
		spoilTexts(row)
		for _, other := range r.Rows[i+1:] {
			if slices.Contains(other, "spoilt") {
				t.Fatal("two rows share memory")
			}
		}
	}
}

// R4: the same calls have the same answers, also at the same time in other tries.
func TestSameAnswers(t *testing.T) {
	l := asks[:60]
	worlds := func() (all []*world) {
		r := rand.New(rand.NewSource(181))
		for _, atoms := range l {
			q := asking(t, r, atoms)
			stores, version := storesOf(t, factsOf(family), 3)
			w := begun(t, 4, version, q, stores, byChance(rand.New(rand.NewSource(r.Int63()))))
			all = append(all, w)
		}
		return all
	}
	first := worlds()
	for _, w := range first {
		w.run()
	}
	var wait sync.WaitGroup
	for range 6 {
		again := worlds()
		wait.Go(func() {
			for i, w := range again {
				for len(w.first) > 0 {
					m := w.take(w.next(w.first))
					w.told = append(w.told, m)
					w.send(m.to, w.give(m.to, m.from, m.note))
				}
				r, ok := w.head.Done()
				if want, _ := first[i].head.Done(); !ok || !sameReply(r, want) || !sameTold(w.told, first[i].told) {
					t.Errorf("%s: %v, want %v", l[i], r, want)
				}
			}
		})
	}
	wait.Wait()
}

// R4: one store may have many parts at once.
func TestOneStore(t *testing.T) {
	stores, version := storesOf(t, factsOf(family), 2)
	q := some(t)
	want := wanted(factsOf(family), q, version)
	for try := range 20 {
		if r := begun(t, 1+try, version, q, stores, newest).run(); !sameReply(r, want) {
			t.Errorf("%v, want %v", r, want)
		}
	}
	facts, _ := stores[0].Facts(version)
	if len(facts) == 0 || stores[0].Version() != version || !stores[0].Homes(0, 2) {
		t.Errorf("the store has changed: %v", facts)
	}
}

// inUse is how many bytes are kept of all that was made.
func inUse() int {
	var m runtime.MemStats
	runtime.GC()
	runtime.ReadMemStats(&m)
	return int(m.HeapAlloc)
}

// What is kept is no more than the promises need: behind the end, little of what was found.
func TestKeepsNoMore(t *testing.T) {
	stores, version := storesOf(t, ring(300, "p"), 4)
	for _, asked := range []string{"select ?x where { ?x p* ?y . ?y p* ?z }", "select ?x where { ?x p* ?y . ?z none ?z }"} {
		at := inUse()
		w := begun(t, 4, version, parsed(t, asked), stores, oldest)
		most, count := 0, 0
		w.before = func(mail) {
			if count++; count%50 == 0 {
				most = max(most, inUse()-at)
			}
		}
		w.run()
		w.told, w.lines = nil, nil
		if left := inUse() - at; left > most/5 || most < 5<<20 {
			t.Errorf("%s: %d bytes behind the end, %d ahead of it", asked, left, most)
		}
		w.reply()
		runtime.KeepAlive(w)
	}
}
