package flow_test

import (
	"fmt"
	"math/rand"
	"slices"
	"strings"
	"testing"

	"sinew/api"
	"sinew/check"
	"sinew/flow"
	"sinew/model"
	"sinew/query"
	"sinew/store"
	"sinew/wire"
)

// factsOf are facts of a text: three words each, with commas between.
func factsOf(s string) (facts []api.Triple) {
	for _, f := range strings.Split(s, ",") {
		if l := strings.Fields(f); len(l) == 3 {
			facts = append(facts, api.Triple{S: l[0], P: l[1], O: l[2]})
		}
	}
	return facts
}

// parsed is the query of a text.
func parsed(t testing.TB, s string) api.Query {
	t.Helper()
	r, at, e := query.Parse(s)
	if e != api.OK || r.Kind != api.AskRows {
		t.Fatalf("Parse(%q): %d, %d", s, at, e)
	}
	return r.Query
}

// isOf tells whether a fact lives with a worker, of so many.
func isOf(f api.Triple, worker, workers int) bool {
	home, _ := check.Home(f.S, workers)
	return home == worker-1
}

// storesOf are workers' stores of facts, and their last version. Facts come one batch behind the other, and all of them are gone, and there again, in between.
func storesOf(t testing.TB, facts []api.Triple, workers int) ([]*store.Store, int) {
	t.Helper()
	all := make([]*store.Store, workers)
	for i := range all {
		all[i] = store.New()
	}
	version := 0
	for _, gone := range []bool{false, true, false} {
		for l := range slices.Chunk(facts, api.MaxChanges) {
			version++
			for i, s := range all {
				var batch []api.Change
				for _, f := range l {
					if isOf(f, i+1, workers) {
						batch = append(batch, api.Change{Gone: gone, T: f})
					}
				}
				if e := s.Apply(version, batch); e != api.OK {
					t.Fatalf("Apply(%d): %d", version, e)
				}
			}
		}
	}
	return all, version
}

// The kinds of notes, and the steps that the head tells of as the fifth Num of a step's note.
const (
	begins = 10 + iota
	tells
	steps
	vertices
	edges
	ways
	pairs
	sizes
	rows
	many

	toSpread = iota - 8
	toSearch
	toCount
	toShare
	toJoin
)

// mail is a note under way, the so manieth that was sent.
type mail struct {
	from, to int
	note     api.Note
	sent     int
}

// line is two nodes, of which one sends the other one notes.
type line struct{ from, to int }

// world is the nodes of one try, and the notes under way between them.
type world struct {
	t       testing.TB
	try     int
	version int
	head    *flow.Head
	workers []*flow.Worker
	// lines are the notes under way, and first the first ones of each line; all in the order in which they were sent.
	lines map[line][]mail
	first []mail
	sent  int
	// next tells which of some notes, the first ones of their lines, comes next.
	next order
	// before is called ahead of each note's coming.
	before func(m mail)
	// told is all that came.
	told []mail
}

// order tells which of some notes comes next: its place.
type order func(l []mail) int

// begun is a world of a query, of the last version of stores.
func begun(t testing.TB, try, version int, q api.Query, stores []*store.Store, next order) *world {
	t.Helper()
	w := &world{t: t, try: try, version: version, next: next, lines: map[line][]mail{}}
	h, out, e := flow.NewHead(try, len(stores), version, q)
	if e != api.OK || len(out) != len(stores) {
		t.Fatalf("NewHead(%d, %d, %d, %v): %d notes, %d", try, len(stores), version, q, len(out), e)
	}
	w.head = h
	for i, s := range stores {
		x, e := flow.NewWorker(i+1, len(stores), out[i].Note, s)
		if e != api.OK {
			t.Fatalf("NewWorker(%d, %d, %v): %d", i+1, len(stores), out[i].Note, e)
		}
		w.workers = append(w.workers, x)
	}
	w.send(0, out)
	return w
}

// send lets notes go, each of which must be one that may go.
func (w *world) send(from int, out []flow.Out) {
	w.t.Helper()
	for _, o := range out {
		if o.To < 0 || o.To > len(w.workers) && len(w.workers) > 0 || o.To == from {
			w.t.Fatalf("a note of %d to %d", from, o.To)
		}
		if o.Note.Kind < 10 || o.Note.Kind > 19 || len(o.Note.Nums) == 0 || o.Note.Nums[0] != w.try {
			w.t.Fatalf("a note of %d to %d: %v", from, o.To, o.Note)
		}
		// What a line takes.
		if s, e := wire.Pack(o.Note); e != api.OK || len(s) > 1<<15 {
			w.t.Fatalf("a note of %d to %d: %d bytes, %d", from, o.To, len(s), e)
		}
		w.sent++
		at := line{from, o.To}
		w.lines[at] = append(w.lines[at], mail{from, o.To, o.Note, w.sent})
		if len(w.lines[at]) == 1 {
			w.first = append(w.first, w.lines[at][0])
		}
	}
}

// take takes one of the first notes from its line.
func (w *world) take(at int) mail {
	m := w.first[at]
	w.first = slices.Delete(w.first, at, at+1)
	l := w.lines[line{m.from, m.to}][1:]
	w.lines[line{m.from, m.to}] = l
	if len(l) > 0 {
		at, _ = slices.BinarySearchFunc(w.first, l[0], func(a, b mail) int { return a.sent - b.sent })
		w.first = slices.Insert(w.first, at, l[0])
	}
	return m
}

// give lets a node take a note: what it sends then.
func (w *world) give(to, from int, n api.Note) []flow.Out {
	if to == 0 {
		return w.head.Take(from, n)
	}
	return w.workers[to-1].Take(from, n)
}

// step lets one note come.
func (w *world) step() {
	w.t.Helper()
	// Fl2: as long as something is under way.
	if r, ok := w.head.Done(); ok || !sameReply(r, api.Reply{}) {
		w.t.Fatalf("notes are under way on %d lines, and %v, %t", len(w.first), r, ok)
	}
	m := w.take(w.next(w.first))
	if w.before != nil {
		w.before(m)
	}
	w.told = append(w.told, m)
	w.send(m.to, w.give(m.to, m.from, m.note))
}

// run lets all notes come: the reply.
func (w *world) run() api.Reply {
	w.t.Helper()
	for len(w.first) > 0 {
		w.step()
	}
	return w.reply()
}

// reply is what the head answers, as all notes came.
func (w *world) reply() api.Reply {
	w.t.Helper()
	r, ok := w.head.Done()
	if !ok {
		w.t.Fatalf("no reply, behind %d notes", len(w.told))
	}
	return r
}

// sameRows tells whether rows are the same.
func sameRows(a, b [][]string) bool {
	return slices.EqualFunc(a, b, slices.Equal[[]string])
}

// sameReply tells whether two replies say the same.
func sameReply(a, b api.Reply) bool {
	return a.Err == b.Err && a.Version == b.Version && sameRows(a.Rows, b.Rows)
}

// sameNote tells whether two notes say the same.
func sameNote(a, b api.Note) bool {
	return a.Kind == b.Kind && slices.Equal(a.Nums, b.Nums) && slices.Equal(a.Texts, b.Texts) && sameRows(a.Rows, b.Rows)
}

// sameTold tells whether two worlds went the same way.
func sameTold(a, b []mail) bool {
	return slices.EqualFunc(a, b, func(a, b mail) bool { return a.from == b.from && a.to == b.to && sameNote(a.note, b.note) })
}

// wanted is the reply that layer 11 asks for.
func wanted(facts []api.Triple, q api.Query, version int) api.Reply {
	rows, e := model.Rows(facts, q)
	return api.Reply{Err: e, Version: version, Rows: rows}
}

// held holds a try's reply against layer 11, and is it.
func held(t testing.TB, facts []api.Triple, q api.Query, workers int, next order) api.Reply {
	t.Helper()
	stores, version := storesOf(t, facts, workers)
	w := begun(t, 7, version, q, stores, next)
	r, want := w.run(), wanted(facts, q, version)
	if !sameReply(r, want) {
		t.Fatalf("%d workers, %v, %s: %v, want %v", workers, facts, textOf(q), r, want)
	}
	return r
}

// textOf is a query's text.
func textOf(q api.Query) string {
	s, _ := query.Print(api.Request{Kind: api.AskRows, Query: q})
	return s
}

// oldest is the order in which notes were sent.
func oldest([]mail) int { return 0 }

// newest is the note that was sent last, of those that may come.
func newest(l []mail) int { return len(l) - 1 }

// byChance is any order.
func byChance(r *rand.Rand) order {
	return func(l []mail) int { return r.Intn(len(l)) }
}

// last lets the notes come last of which something is so.
func last(is func(m mail) bool) order {
	return func(l []mail) int {
		return max(0, slices.IndexFunc(l, func(m mail) bool { return !is(m) }))
	}
}

// orders are ways in which notes are turned about.
func orders(r *rand.Rand) []order {
	node := r.Intn(9)
	return []order{
		oldest,
		newest,
		byChance(r),
		last(func(m mail) bool { return m.to == node }),
		last(func(m mail) bool { return m.from == node }),
		last(func(m mail) bool { return m.from == 0 }),
		last(func(m mail) bool { return m.to == 0 }),
		last(func(m mail) bool { return m.from < m.to }),
		last(func(m mail) bool { return len(m.note.Rows) == 0 }),
		last(func(m mail) bool { return len(m.note.Rows) > 0 }),
		func(l []mail) int { return r.Intn(1 + r.Intn(len(l))) },
	}
}

// brief is the beginning of a note, for telling of it.
func brief(n api.Note) string {
	s := fmt.Sprint(n)
	return s[:min(len(s), 300)]
}
