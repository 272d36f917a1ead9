package commit_test

import (
	"math"
	"slices"
	"strings"
	"testing"

	"sinew/api"
	"sinew/commit"
	"sinew/flow"
	"sinew/wire"
)

// id is an id of the client 1.
func id(seq int) api.Id {
	return api.Id{Client: 1, Seq: seq}
}

// asked are a head's notes of a batch, each worker's part of which are facts about so many subjects that live with it.
func asked(t *testing.T, w *world, seq, count int) []mail {
	t.Helper()
	var l []api.Change
	for i := range w.workers {
		l = append(l, coming(homed("s", count, i+1, w.workers)...)...)
	}
	return w.begin(id(seq), l)
}

// answers are what workers say to the head's notes.
func (w *world) answers(l []mail) (out []mail) {
	w.t.Helper()
	for _, m := range l {
		answer, _ := w.come(m)
		out = append(out, answer...)
	}
	return out
}

// The chapter's example.
func TestExample(t *testing.T) {
	h, e := commit.NewHead(2, nil)
	if e != api.OK {
		t.Fatal(e)
	}
	var parts []*commit.Part
	for range 2 {
		p, e := commit.NewPart(nil)
		if e != api.OK {
			t.Fatal(e)
		}
		parts = append(parts, p)
	}
	_, out, e := h.Begin(id(1), coming("a", "b", "c", "d"))
	if e != api.OK || len(out) != 2 {
		t.Fatal(out, e)
	}
	for range 2 {
		var next []flow.Out
		for _, o := range out {
			_, answer := parts[o.To-1].Take(o.Note)
			if len(answer) != 1 || answer[0].To != 0 {
				t.Fatal(answer)
			}
			_, l := h.Take(o.To, answer[0].Note)
			next = append(next, l...)
		}
		out = next
	}
	if v, e := h.Ended(id(1)); v != 1 || e != api.OK || h.Version() != 1 || h.Busy() || len(out) != 0 {
		t.Error(v, e, h.Version(), h.Busy(), out)
	}
	for i, p := range parts {
		if p.Store().Version() != 1 || p.Waits() {
			t.Error(i+1, p.Store().Version(), p.Waits())
		}
	}
}

// Co1: a head has 1 to 64 workers.
func TestWorkers(t *testing.T) {
	for _, workers := range []int{1, 2, 3, 63, 64} {
		w := newWorld(t, workers)
		if l := w.head.Again(); len(l) != 0 || w.head.Busy() || w.head.Version() != 0 || len(w.head.Order()) != 0 {
			t.Errorf("%d workers, and nothing was asked: %v", workers, l)
		}
	}
	w := newWorld(t, 1)
	w.batch(id(1), coming("a"))
	for _, workers := range []int{0, -1, 65, math.MinInt, math.MaxInt} {
		for _, journal := range [][]api.Note{nil, {}, w.books[0]} {
			if h, e := commit.NewHead(workers, journal); h != nil || e != api.ErrArg {
				t.Errorf("NewHead(%d, %v): %v, %d", workers, journal, h, e)
			}
		}
	}
}

// wrongBatches are changes that are none of a batch.
func wrongBatches() [][]api.Change {
	all := [][]api.Change{nil, {}, coming(homed("s", 65, 1, 1)...), going(homed("s", 65, 1, 1)...), make([]api.Change, 1)}
	for _, word := range []string{"", "A", "a b", "?x", strings.Repeat("a", 17), "\xff", "a\n"} {
		for _, f := range []api.Triple{{S: word, P: "p", O: "o"}, {S: "s", P: word, O: "o"}, {S: "s", P: "p", O: word}} {
			all = append(all, []api.Change{{T: f}}, append(going("a", "b"), api.Change{T: f}))
		}
	}
	return all
}

// Co1: Begin refuses what layer 7 does, whatever is under way; and else ErrBusy, as long as something is.
func TestBeginRefused(t *testing.T) {
	w := newWorld(t, 2)
	refused := func(when string, l []api.Change, want api.Errno) {
		t.Helper()
		again := w.head.Again()
		write, out, e := w.head.Begin(id(7), l)
		if len(write) != 0 || len(out) != 0 || e != want {
			t.Errorf("%s: Begin(%v): %v, %v, %d, want %d", when, l, write, out, e, want)
		}
		w.headStands()
		if !sameOut(w.head.Again(), again) {
			t.Errorf("%s: Begin(%v) has changed what is sent again", when, l)
		}
	}
	all := func(when string, busy bool) {
		t.Helper()
		for _, l := range wrongBatches() {
			refused(when, l, api.ErrArg)
		}
		if busy {
			refused(when, coming("a"), api.ErrBusy)
			refused(when, coming(homed("s", 64, 1, 1)...), api.ErrBusy)
		}
	}
	all("at first", false)
	ask := w.begin(id(1), coming("a", "b"))
	all("no vote", true)
	vote := w.answers(ask)
	w.come(vote[0])
	all("one vote", true)
	tell, _ := w.come(vote[1])
	all("all votes", true)
	know := w.answers(tell)
	w.come(know[1])
	all("one knows", true)
	w.come(know[0])
	all("all know", false)
	w.anew(0, true)
	all("anew", true)
	w.settle()
	all("anew, and all know", false)
	if v, e := w.head.Ended(id(7)); v != 0 || e != api.ErrNone {
		t.Errorf("it was never begun: %d, %d", v, e)
	}
}

// sameOut tells whether notes are the same, to the same nodes.
func sameOut(a, b []flow.Out) bool {
	return slices.EqualFunc(a, b, func(a, b flow.Out) bool { return a.To == b.To && sameNote(a.Note, b.Note) })
}

// sameNote tells whether two notes are the same, nil and empty lists, too.
func sameNote(a, b api.Note) bool {
	return a.Kind == b.Kind && slices.Equal(a.Nums, b.Nums) && slices.Equal(a.Texts, b.Texts) && slices.EqualFunc(a.Rows, b.Rows, slices.Equal)
}

// Co1: each worker gets the changes whose subjects live with it, in their order, also if there are none; at the limit of changes, too.
func TestParts(t *testing.T) {
	for _, workers := range []int{1, 2, 3, 8, 64} {
		for _, l := range [][]api.Change{
			coming("a"),
			going("a"),
			coming(homed("s", 64, workers, workers)...),
			append(append(coming("a", "b", "c"), going("c", "b")...), coming("b", "d")...),
			append(going("a"), coming("a")...),
			append(coming("a"), going("a")...),
			coming(homed("s", 64, 1, 1)...),
			{{T: api.Triple{S: strings.Repeat("s", 16), P: "-:09az", O: strings.Repeat(":", 16)}}},
		} {
			w := newWorld(t, workers)
			w.batch(id(1), coming("b", "c"))
			w.batch(id(2), l)
			if w.head.Version() != 2 {
				t.Fatalf("%d workers, %v: version %d", workers, l, w.head.Version())
			}
			w.agrees()
		}
	}
}

// Co1, Co2: what the head answers as votes and ends come, each twice.
func TestStages(t *testing.T) {
	for _, workers := range []int{1, 2, 3, 64} {
		w := newWorld(t, workers)
		is := func(when string, busy bool, version, again int, e api.Errno) {
			t.Helper()
			if w.head.Busy() != busy || w.head.Version() != version || len(w.head.Order()) != version || len(w.head.Again()) != again || len(w.head.Again()) != again {
				t.Errorf("%d workers, %s: %t, version %d, order %v, %d again", workers, when, w.head.Busy(), w.head.Version(), w.head.Order(), len(w.head.Again()))
			}
			if v, err := w.head.Ended(id(5)); v != version || err != e {
				t.Errorf("%d workers, %s: ended %d, %d", workers, when, v, err)
			}
		}
		is("at first", false, 0, 0, api.ErrNone)
		ask := asked(t, w, 5, 1)
		is("begun", true, 0, workers, api.ErrNone)
		vote := w.answers(ask)
		var tell []mail
		for i, m := range slices.Backward(vote) {
			is("ahead of a vote", true, 0, i+1, api.ErrNone)
			tell, _ = w.come(m)
			if out, _ := w.come(m); len(out) != 0 {
				t.Errorf("%d workers: a vote that comes twice, and %v goes", workers, out)
			}
		}
		if len(tell) != workers {
			t.Fatalf("%d workers, and the end goes to %d", workers, len(tell))
		}
		is("voted", true, 1, workers, api.OK)
		for i, m := range slices.Backward(w.answers(tell)) {
			is("ahead of an end", true, 1, i+1, api.OK)
			w.come(m)
			w.come(m)
		}
		is("known", false, 1, 0, api.OK)
		for _, m := range append(vote, w.answers(tell)...) {
			w.come(m)
		}
		is("told once more", false, 1, 0, api.OK)
		w.agrees()
	}
}

// Co1: notes that no worker says, or of another batch, or in another one's place: nothing comes of them.
func TestOthersNotes(t *testing.T) {
	w := newWorld(t, 3)
	var all []mail
	// One batch, of which all notes come late then.
	first := w.begin(id(1), coming("a", "b", "c"))
	for len(first) > 0 {
		all = append(all, first...)
		first = w.answers(first)
	}
	nothing := func(when string) {
		t.Helper()
		again := w.head.Again()
		take := func(from int, n api.Note) {
			t.Helper()
			if write, out := w.head.Take(from, n); len(write) != 0 || len(out) != 0 {
				t.Errorf("%s: Take(%d, %v): %v, %v", when, from, n, write, out)
			}
			w.headStands()
			if !sameOut(w.head.Again(), again) {
				t.Errorf("%s: Take(%d, %v) has changed what is sent again", when, from, n)
			}
		}
		for _, m := range all {
			for _, from := range []int{m.from, 0, -1, 1, 2, 3, 4, 64, 65, math.MinInt, math.MaxInt} {
				take(from, m.note)
			}
		}
		for _, m := range w.all {
			for _, from := range []int{0, -1, 4, 64, 65, math.MinInt, math.MaxInt} {
				take(from, m.note)
			}
		}
		for _, n := range otherNotes(append(all, w.all...)) {
			take(1, n)
			take(3, n)
		}
		for _, b := range w.books {
			for _, n := range b {
				take(2, n)
			}
		}
	}
	var ask, vote, tell, know []mail
	for _, stage := range []struct {
		when string
		do   func()
	}{
		{"ahead of a batch", func() {}},
		{"no vote", func() {
			ask = w.begin(id(2), coming("a", "d", "e"))
			vote = w.answers(ask)
			w.all = append(ask, vote...)
		}},
		{"one vote", func() { w.come(vote[0]) }},
		{"all votes", func() {
			tell = w.answers(vote[1:])
			know = w.answers(tell)
			w.all = append(append(w.all, tell...), know...)
		}},
		{"one knows", func() { w.come(know[2]) }},
		{"all know", func() { w.answers(know[:2]) }},
		{"anew", func() { w.anew(0, true) }},
	} {
		stage.do()
		nothing(stage.when)
	}
	w.settle()
	w.agrees()
}

// otherNotes are notes of which some piece is another one than of notes that are right, and notes of other kinds.
func otherNotes(l []mail) (all []api.Note) {
	for kind := range 256 {
		all = append(all, api.Note{Kind: kind}, api.Note{Kind: kind, Nums: []int{1}}, api.Note{Kind: kind, Nums: []int{2, 1, 0}}, api.Note{Kind: kind, Nums: []int{2, 1, 3, 0}})
	}
	for _, m := range l {
		all = append(all, others(m.note)...)
	}
	return append(all, api.Note{}, api.Note{Kind: -1}, api.Note{Kind: math.MaxInt}, api.Note{Kind: math.MinInt})
}

// others are notes that differ from one in one piece each.
func others(n api.Note) (all []api.Note) {
	add := func(change func(n *api.Note)) {
		other := copied(n)
		change(&other)
		all = append(all, other)
	}
	for _, by := range []int{-1, 1, 1 << 32, math.MinInt} {
		add(func(n *api.Note) { n.Kind += by })
		for i := range n.Nums {
			add(func(n *api.Note) { n.Nums[i] += by })
		}
	}
	for i := range n.Nums {
		add(func(n *api.Note) { n.Nums = slices.Delete(n.Nums, i, i+1) })
		add(func(n *api.Note) { n.Nums = slices.Insert(n.Nums, i, 0) })
	}
	add(func(n *api.Note) { n.Nums = nil })
	add(func(n *api.Note) { n.Nums = append(n.Nums, 0) })
	add(func(n *api.Note) { n.Texts = []string{""} })
	add(func(n *api.Note) { n.Rows = append(n.Rows, nil) })
	add(func(n *api.Note) { n.Rows = append(n.Rows, []string{"+", "a", "p", "o"}) })
	for i, row := range n.Rows {
		add(func(n *api.Note) { n.Rows = slices.Delete(n.Rows, i, i+1) })
		add(func(n *api.Note) { n.Rows[i] = append(n.Rows[i], "a") })
		for k, s := range row {
			add(func(n *api.Note) { n.Rows[i] = slices.Delete(n.Rows[i], k, k+1) })
			for _, other := range []string{"", "a" + s, s + "b", "+", "-", "\xff", strings.Repeat("a", 17)} {
				if other != s {
					add(func(n *api.Note) { n.Rows[i][k] = other })
				}
			}
		}
	}
	return all
}

// copied is a note that may be in memory of its own.
func copied(n api.Note) api.Note {
	s, _ := wire.Pack(n)
	other, _, _ := wire.Unpack(s)
	return other
}

// Co2: a batch that was refused by one worker ends with the last vote, whichever that is, and nobody does it.
func TestRefused(t *testing.T) {
	for worker := range 3 {
		w := full(t, 3, worker+1, 1)
		version := w.head.Version()
		vote := w.answers(asked(t, w, 5, 2))
		for i, m := range vote {
			if m.means.yes == (i == worker) {
				t.Errorf("worker %d votes %v", i+1, m.means)
			}
			if v, e := w.head.Ended(id(5)); v != 0 || e != api.ErrNone || !w.head.Busy() {
				t.Errorf("ahead of vote %d: %d, %d", i+1, v, e)
			}
			w.send(w.answers([]mail{m}))
		}
		if v, e := w.head.Ended(id(5)); v != 0 || e != api.ErrAbort || !w.head.Busy() || w.head.Version() != version || len(w.head.Order()) != version {
			t.Errorf("refused: %d, %d, version %d", v, e, w.head.Version())
		}
		w.settle()
		w.agrees()
		// What is not too much is done then, also under the same id.
		w.batch(id(5), coming(homed("t", 1, worker+1, 3)...))
		if v, e := w.head.Ended(id(5)); v != version+1 || e != api.OK {
			t.Errorf("behind it: %d, %d", v, e)
		}
		w.batch(id(6), coming(homed("u", 1, worker+1, 3)...))
		if v, e := w.head.Ended(id(6)); v != 0 || e != api.ErrAbort {
			t.Errorf("one fact more: %d, %d", v, e)
		}
		w.agrees()
	}
}

// Co2: what ended stays so, whatever else is asked under its id, also when the head begins anew.
func TestStaysEnded(t *testing.T) {
	w := full(t, 2, 2, 0)
	more := coming(homed("u", 1, 2, 2)...)
	done := w.head.Version() + 1
	w.batch(id(1), coming(homed("t", 1, 1, 2)...))
	w.batch(id(2), more)
	w.batch(id(1), more)
	w.batch(id(1), going(homed("t", 1, 1, 2)...))
	w.begin(id(1), more)
	for range 2 {
		if v, e := w.head.Ended(id(1)); v != done || e != api.OK {
			t.Errorf("done: %d, %d, want %d", v, e, done)
		}
		if v, e := w.head.Ended(id(2)); v != 0 || e != api.ErrAbort {
			t.Errorf("refused: %d, %d", v, e)
		}
		if l := w.head.Order(); w.head.Version() != done+1 || len(l) != done+1 || l[done-1] != id(1) || l[done] != id(1) {
			t.Errorf("order: %v, version %d", l, w.head.Version())
		}
		w.anew(0, true)
	}
	w.settle()
	w.agrees()
}

// Co2: ids of all kinds are kept apart, also when the head begins anew.
func TestIds(t *testing.T) {
	w := newWorld(t, 1)
	numbers := []int{0, 1, -1, 2, 1<<31 - 1, 1 << 31, -1 << 31, 1<<32 - 1, 1 << 32, -1 << 32, 1<<62 - 1, 1 << 62, math.MaxInt, math.MinInt, math.MinInt + 1}
	var ids []api.Id
	for _, client := range numbers {
		for _, seq := range numbers {
			ids = append(ids, api.Id{Client: client, Seq: seq})
		}
	}
	for i, x := range ids {
		w.batch(x, coming("a"))
		for _, h := range ids[i+1:] {
			if v, e := w.head.Ended(h); v != 0 || e != api.ErrNone {
				t.Fatalf("%v was not asked for, and ended: %d, %d", h, v, e)
			}
		}
	}
	w.anew(0, true)
	for i, x := range ids {
		if v, e := w.head.Ended(x); v != i+1 || e != api.OK || w.head.Order()[i] != x {
			t.Errorf("%v: %d, %d, %v", x, v, e, w.head.Order()[i])
		}
	}
}

// Co2: a batch of whose end the journal says nothing is lost, the workers are told, and it may be asked for again.
func TestLost(t *testing.T) {
	for votes := range 4 {
		w := newWorld(t, 3)
		w.batch(id(1), coming("a", "b", "c"))
		vote := w.answers(asked(t, w, 2, 1)[:votes])
		for i, m := range vote {
			// The last one of three ends it; but that does not survive.
			w.come(m)
			if i == 2 {
				w.anew(0, false)
			}
		}
		if votes < 3 {
			w.anew(0, true)
		}
		if v, e := w.head.Ended(id(2)); v != 0 || e != api.ErrNone || !w.head.Busy() || w.head.Version() != 1 || len(w.head.Again()) != 3 {
			t.Errorf("%d votes: %d, %d, version %d, %d are told", votes, v, e, w.head.Version(), len(w.head.Again()))
		}
		for i, p := range w.parts {
			if p.Waits() != (i < votes) {
				t.Errorf("%d votes: worker %d waits: %t", votes, i+1, p.Waits())
			}
		}
		// A vote for it is late.
		for _, m := range vote {
			w.come(m)
		}
		w.settle()
		if v, e := w.head.Ended(id(2)); v != 0 || e != api.ErrNone || w.head.Busy() {
			t.Errorf("%d votes, and all know: %d, %d", votes, v, e)
		}
		w.agrees()
		// Lost as it was, the next head tells so again.
		w.anew(0, true)
		if len(w.head.Again()) != 3 || !w.head.Busy() {
			t.Errorf("%d votes: %d are told by the next head", votes, len(w.head.Again()))
		}
		w.settle()
		w.send(asked(t, w, 2, 1))
		w.settle()
		if v, e := w.head.Ended(id(2)); v != 2 || e != api.OK {
			t.Errorf("%d votes, and asked for again: %d, %d", votes, v, e)
		}
		w.anew(0, true)
		w.settle()
		w.agrees()
	}
}

// Of a beginning that did not survive nothing was sent, and the next one has its place.
func TestTornBeginning(t *testing.T) {
	w := newWorld(t, 2)
	w.begin(id(1), coming("a", "b"))
	w.anew(0, false)
	if w.head.Busy() || len(w.books[0]) != 0 {
		t.Errorf("nothing began: %t, %v", w.head.Busy(), w.books[0])
	}
	w.batch(id(2), coming("c", "d"))
	w.begin(id(3), coming("e", "f"))
	w.anew(0, false)
	w.settle()
	w.batch(id(4), going("c", "d"))
	if w.head.Version() != 2 {
		t.Errorf("version %d", w.head.Version())
	}
	w.agrees()
}
