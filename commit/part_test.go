package commit_test

import (
	"slices"
	"testing"

	"sinew/api"
	"sinew/commit"
)

// Co3: how a part stands at each stage of batches, told twice.
func TestPartStages(t *testing.T) {
	w := newWorld(t, 2)
	is := func(when string, waits bool, version int) {
		t.Helper()
		for i, p := range w.parts {
			if p.Waits() != waits || p.Store().Version() != version {
				t.Errorf("%s: worker %d waits: %t, version %d", when, i+1, p.Waits(), p.Store().Version())
			}
		}
	}
	is("at first", false, 0)
	for version := range 3 {
		ask := asked(t, w, version, 1+version)
		is("begun", false, version)
		vote := w.answers(append(ask, ask...))
		is("asked", true, version)
		for i := range w.parts {
			w.anew(i+1, true)
		}
		is("asked, and anew", true, version)
		again := w.answers(ask)
		for i, m := range again {
			if !sameNote(m.note, vote[i].note) {
				t.Errorf("a vote told again: %v, it was %v", m.note, vote[i].note)
			}
		}
		tell := w.answers(vote)
		know := w.answers(append(tell, tell...))
		is("told", false, version+1)
		w.answers(append(ask, tell...))
		is("told once more", false, version+1)
		for i := range w.parts {
			w.anew(i+1, true)
		}
		is("told, and anew", false, version+1)
		w.answers(know)
		if w.head.Busy() {
			t.Error("all know, and the head is busy")
		}
		w.agrees()
	}
}

// Co3: what a part was told stays unwritten if it begins anew from what was sure: it is asked, and told, again.
func TestPartTorn(t *testing.T) {
	w := newWorld(t, 1)
	for version := range 3 {
		ask := asked(t, w, version, 1+version)
		w.answers(ask)
		w.anew(1, false)
		if w.parts[0].Waits() {
			t.Error("its vote did not survive, and it waits")
		}
		tell := w.answers(w.answers(ask))
		w.answers(tell)
		w.anew(1, false)
		if !w.parts[0].Waits() || w.parts[0].Store().Version() != version {
			t.Errorf("the end did not survive: waits %t, version %d", w.parts[0].Waits(), w.parts[0].Store().Version())
		}
		w.answers(ask)
		w.answers(w.answers(tell))
		w.agrees()
	}
}

// Co3: the facts behind each version, of what a worker's part makes of them; refused and lost batches make none.
func TestPartVersions(t *testing.T) {
	w := newWorld(t, 1)
	for i, l := range [][]api.Change{coming("a", "b"), going("a"), append(going("b"), coming("b", "c")...), coming("c"), going("x")} {
		w.batch(id(i), l)
		if i == 2 {
			w.begin(id(7), coming("y"))
			w.anew(0, true)
			w.settle()
		}
	}
	want := [][]string{nil, {"a", "b"}, {"b"}, {"b", "c"}, {"b", "c"}, {"b", "c"}}
	for range 2 {
		s := w.parts[0].Store()
		for v, subjects := range want {
			var l []api.Triple
			for _, c := range coming(subjects...) {
				l = append(l, c.T)
			}
			if facts, e := s.Facts(v); e != api.OK || !slices.Equal(facts, l) {
				t.Errorf("version %d: %v, %d, want %v", v, facts, e, l)
			}
		}
		if s.Version() != len(want)-1 {
			t.Errorf("version %d", s.Version())
		}
		w.anew(1, true)
	}
}

// Co3: a part votes against what its Room refuses, writes nothing then, and waits for nothing; and votes so again.
func TestPartRoom(t *testing.T) {
	for room := range 3 {
		w := full(t, 2, 2, room)
		p := w.parts[1]
		for count := range 5 {
			ask := asked(t, w, 100+count, count+1)[1]
			for range 2 {
				out, wrote := w.come(ask)
				fits := count+1 <= room
				if len(out) != 1 || out[0].means.yes != fits || p.Waits() != fits || wrote && !fits {
					t.Fatalf("room for %d, asked for %d: %v, writes %t, waits %t", room, count+1, out, wrote, p.Waits())
				}
			}
			// It is lost, and there is as much room as ahead of it.
			w.anew(0, true)
			w.settle()
		}
		// Facts that are there, or that go first, need no room.
		l := append(going(homed("x", 10, 2, 2)...), coming(homed("y", 10+room, 2, 2)...)...)
		w.batch(id(200), append(l, coming(homed("y", 3, 2, 2)...)...))
		if _, e := w.head.Ended(id(200)); e != api.OK {
			t.Errorf("room for %d: %d", room, e)
		}
		w.batch(id(201), coming(homed("z", 1, 2, 2)...))
		if _, e := w.head.Ended(id(201)); e != api.ErrAbort {
			t.Errorf("room for none: %d", e)
		}
		w.agrees()
	}
}

// Co3: of notes that the head did not send to it, or that come late, nothing is written, and nothing counts.
func TestPartOthers(t *testing.T) {
	w := newWorld(t, 3)
	w.batch(id(1), coming("a", "b", "c", "d"))
	late := slices.Clone(w.all)
	nothing := func(when string) {
		t.Helper()
		take := func(n api.Note) {
			t.Helper()
			for i, p := range w.parts {
				if write, _ := p.Take(n); len(write) != 0 {
					t.Fatalf("%s: worker %d takes %v and writes %v", when, i+1, n, write)
				}
				w.stands(i + 1)
			}
		}
		l := append(slices.Clone(late), w.all...)
		for _, m := range late {
			take(m.note)
		}
		for _, m := range w.all {
			if m.to == 0 {
				take(m.note)
			}
		}
		for _, n := range otherNotes(l) {
			take(n)
		}
		for _, b := range w.books {
			for _, n := range b {
				take(n)
			}
		}
	}
	w.all = nil
	nothing("ahead of a batch")
	ask := asked(t, w, 2, 2)
	nothing("begun")
	w.all = ask
	// Another one's part of it, once it has voted for one.
	for _, m := range ask {
		for _, to := range []int{1, 2, 3} {
			if to == m.to {
				continue
			}
			if write, out := w.parts[to-1].Take(m.note); len(write) != 0 || len(out) != 0 {
				t.Errorf("the part of worker %d, at worker %d: %v, %v", m.to, to, write, out)
			}
			w.stands(to)
		}
	}
	nothing("begun, and asked for others' parts")
	vote := w.answers(ask)
	w.all = append(w.all, vote...)
	nothing("voted")
	tell := w.answers(vote)
	w.all = append(ask, tell...)
	w.all = append(w.all, w.answers(tell)...)
	late = append(late, w.all...)
	nothing("told")
	w.settle()
	w.agrees()
}

// Co3: a part whose batches are not done one behind the other, as the head's are, does none that it was not told of in its place.
func TestPartOutOfOrder(t *testing.T) {
	w := newWorld(t, 1)
	var asks, tells []mail
	for i := range 4 {
		ask := asked(t, w, i, i+1)
		asks = append(asks, ask...)
		tell := w.answers(w.answers(ask))
		tells = append(tells, tell...)
		w.answers(w.answers(tell))
	}
	p, _ := commit.NewPart(nil)
	nothing := func(l []mail) {
		t.Helper()
		was, waits := p.Store().Version(), p.Waits()
		for _, m := range l {
			write, out := p.Take(m.note)
			if len(write) != 0 || len(out) != 0 || p.Store().Version() != was || p.Waits() != waits {
				t.Fatalf("version %d, waits %t, and %v comes: %v, %v", was, waits, m.means, write, out)
			}
		}
	}
	for i := range 4 {
		nothing(tells[i:])
		nothing(asks[i+1:])
		if write, out := p.Take(asks[i].note); len(write) != 1 || len(out) != 1 || !p.Waits() {
			t.Fatalf("asked for %d: %v, %v", i+1, write, out)
		}
		nothing(tells[i+1:])
		nothing(asks[i+1:])
		if write, out := p.Take(tells[i].note); len(write) != 1 || len(out) != 1 || p.Waits() || p.Store().Version() != i+1 {
			t.Fatalf("told of %d: %v, %v, version %d", i+1, write, out, p.Store().Version())
		}
		nothing(asks[:i+1])
		nothing(tells[:i])
	}
}
