package commit_test

import (
	"math/rand"
	"slices"
	"testing"

	"sinew/api"
	"sinew/commit"
)

// noHead is that a journal is none of a head's of so many.
func noHead(t *testing.T, why string, workers int, journal []api.Note) {
	t.Helper()
	if h, e := commit.NewHead(workers, journal); h != nil || e != api.ErrArg {
		t.Errorf("%s: NewHead(%d): %d, %v", why, workers, e, journal)
	}
}

// noPart is that a journal is none of a worker's.
func noPart(t *testing.T, why string, journal []api.Note) {
	t.Helper()
	if p, e := commit.NewPart(journal); p != nil || e != api.ErrArg {
		t.Errorf("%s: NewPart: %d, %v", why, e, journal)
	}
}

// busied is a world behind batches of all ends: done, refused by the first worker, lost, and done.
func busied(t *testing.T, workers int) *world {
	t.Helper()
	w := full(t, workers, 1, 1)
	w.batch(id(1), coming(homed("t", 1, 1, workers)...))
	w.batch(id(2), append(coming(homed("u", 1, 1, workers)...), going(homed("u", 1, workers, workers)...)...))
	w.answers(w.begin(id(3), going("a", "b", "c", "d")))
	w.anew(0, true)
	w.settle()
	w.batch(id(4), going(homed("t", 1, 1, workers)...))
	return w
}

// Co1: a journal cut behind any note is a head's; and a head of it answers as the batches say that it tells of.
func TestHeadCut(t *testing.T) {
	for _, workers := range []int{1, 2, 3} {
		w := busied(t, workers)
		for range 9 {
			w.anew(0, true)
			for _, other := range []int{1, 2, 3, 4, 64} {
				if other != workers {
					noHead(t, "of another number of workers", other, w.books[0])
					noHead(t, "of another number of workers, cut", other, w.books[0][:1])
				}
			}
			// Whether it is the end of the last batch that is cut away, or its beginning, is all that counts.
			w.anew(0, false)
		}
		for cut := range w.books[0] {
			h, e := commit.NewHead(workers, w.books[0][:cut])
			if e != api.OK || h.Busy() != (cut > 0) {
				t.Fatalf("cut behind %d notes: %d", cut, e)
			}
		}
	}
}

// altered are journals that differ from one of a head's or a worker's in such a way that they are none any more, by why that is.
func altered(book, other []api.Note) map[string][][]api.Note {
	all := map[string][][]api.Note{}
	for i := range book {
		at := func(l ...api.Note) []api.Note { return slices.Replace(slices.Clone(book), i, i+1, l...) }
		for _, n := range append(others(book[i]), api.Note{}, api.Note{Kind: 1}, api.Note{Kind: 99}) {
			all["with a note that is another one"] = append(all["with a note that is another one"], at(n))
		}
		for _, n := range other {
			all["with another one's note"] = append(all["with another one's note"], at(n), at(n, book[i]), at(book[i], n))
		}
		all["with a note twice"] = append(all["with a note twice"], at(book[i], book[i]))
		for k := range i {
			all["with an elder note"] = append(all["with an elder note"], at(book[k]), at(book[i], book[k]))
		}
	}
	return all
}

// Co1: journals with a note that is another one, twice, in another's place, or a part's, are none of a head's.
func TestHeadAltered(t *testing.T) {
	w := newWorld(t, 2)
	for i := range 3 {
		w.batch(id(i), coming("a", "b", "c"))
	}
	w.begin(id(3), coming("d"))
	w.anew(0, true)
	w.settle()
	w.batch(id(4), coming("d"))
	var sent []api.Note
	for _, m := range w.all {
		sent = append(sent, m.note)
	}
	for why, l := range altered(w.books[0], append(w.books[1], sent...)) {
		for _, journal := range l {
			noHead(t, why, 2, journal)
		}
	}
	for i := 1; i < len(w.books[0]); i++ {
		noHead(t, "without its beginning", 2, w.books[0][i:])
	}
	// Two batches have no one end, and an end has one batch.
	b := w.books[0]
	noHead(t, "without the beginning of a batch", 2, slices.Delete(slices.Clone(b), 2, 3))
	noHead(t, "turned about", 2, []api.Note{b[0], b[2], b[1]})
	noHead(t, "a part's", 2, w.books[1])
	noHead(t, "a part's", 2, w.books[2])
	noHead(t, "what was sent", 2, sent)
	noHead(t, "a part's behind it", 2, append(slices.Clone(b), w.books[1]...))
	// An end that is lacking is that of a batch that was lost.
	if h, e := commit.NewHead(2, slices.Delete(slices.Clone(b), 1, 2)); e != api.OK || h.Version() != 3 || h.Order()[0] != id(1) {
		t.Errorf("without an end: %d", e)
	}
}

// Co3: a journal cut behind any note is a worker's; and the part has all batches done of which it says so.
func TestPartCut(t *testing.T) {
	for _, workers := range []int{1, 2} {
		w := busied(t, workers)
		for i := range workers {
			book := w.books[i+1]
			version := 0
			for cut := range len(book) + 1 {
				p, e := commit.NewPart(book[:cut])
				if e != api.OK {
					t.Fatalf("worker %d of %d, cut behind %d notes: %d", i+1, workers, cut, e)
				}
				// It has what it voted for as a note of its own, or not at all.
				if v := p.Store().Version(); v != version && (v != version+1 || p.Waits()) {
					t.Errorf("worker %d of %d, cut behind %d notes: version %d behind %d", i+1, workers, cut, v, version)
				}
				version = p.Store().Version()
				if l, e := p.Store().Facts(version); e != api.OK || !slices.Equal(l, w.plains[i].versions[version].sorted()) {
					t.Errorf("worker %d of %d, cut behind %d notes: %d facts, %d", i+1, workers, cut, len(l), e)
				}
			}
			if version != w.head.Version() {
				t.Errorf("worker %d of %d: version %d", i+1, workers, version)
			}
			w.anew(i+1, true)
		}
	}
}

// Co3: journals with a note that is another one, twice, lacking, in another's place, or a head's or another worker's, are none of a worker's.
func TestPartAltered(t *testing.T) {
	w := newWorld(t, 2)
	l := append(coming("a", "b", "c", "d"), going("a")...)
	for i := range 3 {
		w.batch(id(i), l[i:])
	}
	w.answers(w.begin(id(3), l))
	w.anew(0, true)
	w.settle()
	w.batch(id(4), l)
	w.answers(w.begin(id(5), l))
	for i := range 2 {
		book := w.books[i+1]
		var sent []api.Note
		for _, m := range w.all {
			sent = append(sent, m.note)
		}
		for why, l := range altered(book, append(w.books[0], sent...)) {
			for _, journal := range l {
				noPart(t, why, journal)
			}
		}
		for k := range len(book) - 1 {
			// A vote for what was lost may be lacking: so it is with a worker that was not asked.
			if k != 6 {
				noPart(t, "with a note lacking", slices.Delete(slices.Clone(book), k, k+1))
			}
		}
		if _, e := commit.NewPart(slices.Delete(slices.Clone(book), 6, 7)); e != api.OK {
			t.Errorf("without a vote for what was lost: %d", e)
		}
		for k, n := range book {
			if mix := slices.Clone(book); !sameNote(n, w.books[2-i][k]) {
				mix[k] = w.books[2-i][k]
				noPart(t, "with a note of another worker's", mix)
			}
		}
		noPart(t, "what was sent", sent)
	}
	noPart(t, "a head's", w.books[0])
	noPart(t, "a head's, cut", w.books[0][:1])
	noPart(t, "a head's behind it", append(slices.Clone(w.books[1]), w.books[0]...))
}

// Co3: a journal that says that it voted for what there was no room for is none of a worker's.
func TestPartTooMuch(t *testing.T) {
	w := full(t, 1, 1, 1)
	book := slices.Clone(w.books[1])
	fits := full(t, 1, 1, 2)
	fits.answers(fits.begin(id(5), coming("u", "v")))
	last := fits.books[1][len(fits.books[1])-1]
	if len(fits.books[1]) != len(book)+1 {
		t.Fatal(len(book), len(fits.books[1]))
	}
	noPart(t, "too much", append(book, last))
}

// Co1, Co3: whatever notes of journals stand one behind the other: whoever begins from them stands as they say, or does not begin at all.
func TestMixedJournals(t *testing.T) {
	r := rand.New(rand.NewSource(183))
	w := newWorld(t, 2)
	for i := range 4 {
		w.batch(id(i), someChanges(r))
		w.begin(id(100+i), someChanges(r))
		w.anew(0, true)
		w.settle()
	}
	var all []api.Note
	for _, b := range w.books {
		all = append(all, b...)
	}
	heads, parts := 0, 0
	for range 100000 {
		var l []api.Note
		from := w.books[r.Intn(3)]
		if r.Intn(4) == 0 {
			from = all
		}
		for _, n := range from[:r.Intn(len(from)+1)] {
			if r.Intn(20) == 0 {
				n = all[r.Intn(len(all))]
			}
			if r.Intn(20) > 0 {
				l = append(l, n)
			}
		}
		if h, e := commit.NewHead(2, l); e == api.OK && len(l) > 0 {
			heads++
			if h.Version() != len(h.Order()) || !h.Busy() || len(h.Again()) != 2 {
				t.Fatalf("%v: version %d, order %v", l, h.Version(), h.Order())
			}
			for i, x := range h.Order() {
				if v, e := h.Ended(x); e != api.OK || v != i+1 {
					t.Fatalf("%v: %v: %d, %d", l, x, v, e)
				}
			}
		}
		if p, e := commit.NewPart(l); e == api.OK && len(l) > 0 {
			parts++
			if v := p.Store().Version(); v > len(l)/2 || p.Store().Version() > 4 {
				t.Fatalf("%v: version %d", l, v)
			}
		}
	}
	if heads < 1000 || parts < 1000 {
		t.Errorf("%d were a head's, %d a worker's", heads, parts)
	}
}

// The kinds of notes.
const (
	began = 20 + iota
	ended
	ask
	tell
	vote
	know
	voted
	over
)

// forged is a note of numbers and rows whose sum is right.
func forged(kind int, rows [][]string, nums ...int) api.Note {
	n := api.Note{Kind: kind, Nums: append(nums, 0), Rows: rows}
	n.Nums[len(nums)] = sum(n)
	return n
}

// Co1: notes whose sum is right, but that no head writes: none of a head's, from the first one on or behind others.
func TestHeadForged(t *testing.T) {
	is := func(want api.Errno, l ...api.Note) {
		t.Helper()
		if h, e := commit.NewHead(3, l); e != want || (h == nil) != (e != api.OK) {
			t.Errorf("NewHead(3, %v): %d, want %d", l, e, want)
		}
	}
	first := forged(began, nil, 1, 3, 0, 1, 0, 1)
	is(api.OK, first)
	is(api.OK, first, forged(began, nil, 2, 3, 0, 1, 0, 1))
	is(api.OK, first, forged(ended, nil, 1, 1))
	is(api.OK, first, forged(ended, nil, 1, 2))
	for _, n := range []api.Note{
		forged(began, nil, 0, 3, 0, 1, 0, 1), forged(began, nil, 2, 3, 0, 1, 0, 1), forged(began, nil, 1, 2, 0, 1, 0, 1), forged(began, nil, 1, 4, 0, 1, 0, 1),
		forged(began, nil, 1, 3, 1<<32, 1, 0, 1), forged(began, nil, 1, 3, 0, 1<<32, 0, 1), forged(began, nil, 1, 3, 0, 1, -1, 1), forged(began, nil, 1, 3, 0, 1, 0, 1<<40),
		forged(began, nil, 1, 3, 0, 1, 0), forged(began, nil, 1, 3, 0, 1, 0, 1, 0), forged(began, nil), forged(began, [][]string{{}}, 1, 3, 0, 1, 0, 1),
		forged(ended, nil, 0, 1), forged(ended, nil, 1, 1), forged(ended, nil, -1, 1), forged(ended, nil),
		forged(ask, nil, 1, 1, 3), forged(tell, nil, 1, 1), forged(vote, nil, 1, 1), forged(know, nil, 1), forged(voted, nil, 1, 1, 3), forged(over, nil, 1, 1),
	} {
		is(api.ErrArg, n)
	}
	for _, n := range []api.Note{
		forged(ended, nil, 1, 0), forged(ended, nil, 1, 3), forged(ended, nil, 1, -1), forged(ended, nil, 0, 1), forged(ended, nil, 2, 1), forged(ended, nil, 1), forged(ended, nil, 1, 1, 1), forged(ended, [][]string{{}}, 1, 1),
		forged(began, nil, 1, 3, 0, 1, 0, 1), forged(began, nil, 3, 3, 0, 1, 0, 1), forged(began, nil, 2, 2, 0, 1, 0, 1), forged(over, nil, 1, 1),
	} {
		is(api.ErrArg, first, n)
	}
	is(api.ErrArg, first, forged(ended, nil, 1, 1), forged(ended, nil, 1, 1))
	is(api.ErrArg, first, forged(ended, nil, 1, 2), forged(ended, nil, 1, 1))
	is(api.ErrArg, first, forged(ended, nil, 1, 1), forged(ended, nil, 2, 1))
}

// Co3: notes whose sum is right, but that no worker writes, and no head sends: none of a worker's, and nothing comes of them.
func TestPartForged(t *testing.T) {
	home := homed("s", 65, 2, 3)
	rows := func(l []string) (rows [][]string) {
		for _, s := range l {
			rows = append(rows, []string{"+", s, "p", "o"})
		}
		return rows
	}
	row := func(l ...string) [][]string { return [][]string{l} }
	away := homed("s", 1, 1, 3)[0]
	right := []api.Note{forged(0, nil, 1, 2, 3), forged(0, rows(home[:64]), 1, 2, 3), forged(0, row("-", home[0], "p", "o"), 1, 2, 3)}
	wrong := []api.Note{
		forged(0, nil, 0, 2, 3), forged(0, nil, 2, 2, 3), forged(0, nil, 1, 0, 3), forged(0, nil, 1, 4, 3), forged(0, nil, 1, 2, 65), forged(0, nil, 1, 2, 0), forged(0, nil, 1, -1, -1), forged(0, nil, 1, 2), forged(0, nil, 1, 2, 3, 4), forged(0, nil),
		forged(0, rows(home), 1, 2, 3), forged(0, row("+", away, "p", "o"), 1, 2, 3), forged(0, append(rows(home[:1]), row("+", away, "p", "o")...), 1, 2, 3), forged(0, row("+", home[0], "p", "o"), 1, 1, 3),
		forged(0, row("", home[0], "p", "o"), 1, 2, 3), forged(0, row("?", home[0], "p", "o"), 1, 2, 3), forged(0, row("+", home[0], "p"), 1, 2, 3), forged(0, row("+", home[0], "p", "o", "o"), 1, 2, 3), forged(0, row(), 1, 2, 3), forged(0, row("+", home[0], "P", "o"), 1, 2, 3), forged(0, row("+", home[0], "p", ""), 1, 2, 3),
	}
	// as is the same note of another kind.
	as := func(kind int, n api.Note) api.Note {
		return forged(kind, n.Rows, n.Nums[:len(n.Nums)-1:len(n.Nums)-1]...)
	}
	check := func(n api.Note, may bool) {
		t.Helper()
		if _, e := commit.NewPart([]api.Note{as(voted, n)}); (e == api.OK) != may {
			t.Errorf("NewPart(%v): %d", as(voted, n), e)
		}
		p, _ := commit.NewPart(nil)
		if write, out := p.Take(as(ask, n)); (len(write) == 1) != may || (len(out) == 1) != may || p.Waits() != may {
			t.Errorf("Take(%v): %v, %v", as(ask, n), write, out)
		}
	}
	for _, n := range right {
		check(n, true)
	}
	for _, n := range wrong {
		check(n, false)
	}
	begins := as(voted, right[1])
	ends := func(want api.Errno, version int, l ...api.Note) {
		t.Helper()
		p, e := commit.NewPart(l)
		if e != want || e == api.OK && p.Store().Version() != version {
			t.Errorf("NewPart(%v): %d", l, e)
		}
		// The same as the head tells it.
		p, _ = commit.NewPart(l[:len(l)-1])
		write, out := p.Take(as(tell, l[len(l)-1]))
		if (len(write) == 1) != (want == api.OK) || (len(out) == 1) != (want == api.OK) || p.Store().Version() != version {
			t.Errorf("behind %d notes, Take(%v): %v, %v, version %d", len(l)-1, as(tell, l[len(l)-1]), write, out, p.Store().Version())
		}
	}
	for how, want := range map[int]api.Errno{-1: api.ErrArg, 0: api.OK, 1: api.OK, 2: api.OK, 3: api.ErrArg, 4: api.ErrArg} {
		version := 0
		if how == 1 {
			version = 1
		}
		ends(want, version, begins, forged(over, nil, 1, how))
		if how == 1 {
			want = api.ErrArg
		}
		ends(want, 0, forged(over, nil, 1, how))
	}
	ends(api.ErrArg, 0, begins, forged(over, nil, 2, 1))
	ends(api.ErrArg, 0, begins, forged(over, nil, 0, 1))
	ends(api.ErrArg, 0, forged(over, nil, 0, 0))
	ends(api.ErrArg, 0, begins, forged(over, nil, 1))
	ends(api.ErrArg, 0, begins, forged(over, nil, 1, 1, 1))
	ends(api.ErrArg, 0, begins, forged(over, [][]string{{}}, 1, 1))
}

// Co1: notes whose sum is right, but that no worker sends: nothing comes of them.
func TestVoteForged(t *testing.T) {
	w := newWorld(t, 1)
	w.begin(id(1), coming("a"))
	for _, n := range []api.Note{
		forged(vote, nil, 0, 1), forged(vote, nil, 2, 1), forged(vote, nil, 1, 2), forged(vote, nil, 1, -1), forged(vote, nil, 1), forged(vote, nil, 1, 1, 1), forged(vote, nil), forged(vote, [][]string{{"+"}}, 1, 1),
		forged(know, nil, 1), forged(know, nil, 0), forged(know, nil, 1, 1), forged(tell, nil, 1, 1), forged(over, nil, 1, 1), forged(ended, nil, 1, 1),
	} {
		if write, out := w.head.Take(1, n); len(write) != 0 || len(out) != 0 {
			t.Errorf("Take(1, %v): %v, %v", n, write, out)
		}
		w.headStands()
	}
	if write, out := w.head.Take(1, forged(vote, nil, 1, 1)); len(write) != 1 || len(out) != 1 {
		t.Errorf("a vote: %v, %v", write, out)
	}
	for _, n := range []api.Note{forged(know, nil, 0), forged(know, nil, 2), forged(know, nil, 1, 1), forged(know, nil), forged(know, [][]string{{}}, 1), forged(vote, nil, 1, 1), forged(vote, nil, 1, 0)} {
		if w.head.Take(1, n); !w.head.Busy() {
			t.Errorf("Take(1, %v) ends it", n)
		}
	}
	if w.head.Take(1, forged(know, nil, 1)); w.head.Busy() {
		t.Error("all know")
	}
}

// Co1: votes against a batch, of nobody, or of a worker that has voted already: they do not count.
func TestVoteOfNobody(t *testing.T) {
	w := newWorld(t, 2)
	l := w.answers(w.begin(id(1), coming("a", "b")))
	no := forged(vote, nil, 1, 0)
	for _, m := range l {
		for _, from := range []int{0, -1, 3, 64, 65, 1 << 40, -1 << 63} {
			if write, out := w.head.Take(from, no); len(write) != 0 || len(out) != 0 {
				t.Errorf("Take(%d): %v, %v", from, write, out)
			}
		}
		w.send(w.answers([]mail{m}))
		w.head.Take(m.from, no)
		w.headStands()
	}
	if w.head.Version() != 1 {
		t.Errorf("version %d", w.head.Version())
	}
	w.settle()
	w.agrees()
	// That of a worker counts.
	w.begin(id(2), coming("c"))
	w.head.Take(1, forged(vote, nil, 2, 1))
	w.head.Take(2, forged(vote, nil, 2, 0))
	if v, e := w.head.Ended(id(2)); v != 0 || e != api.ErrAbort {
		t.Errorf("a vote against it: %d, %d", v, e)
	}
}
