package link_test

import (
	"math/rand"
	"runtime"
	"slices"
	"strings"
	"sync"
	"testing"

	"sinew/api"
	"sinew/link"
)

// somePackets are bytes of all kinds for an end of epoch 3.
func somePackets() []string {
	return []string{"", "x", telling(7, 3, 1), telling(7, 0, 1), telling(9, 3, 5000), carrying(7, 3, 1, 1, payload(1)), carrying(9, 0, 1, 9, payload(1)), telling(7, 3, 1)[1:], strings.Repeat("\x00", 1<<21), strings.Repeat("\xff", 1<<21), sealed(strings.Repeat("\x01", 1<<20))}
}

// notGiven is an end that New did not give: ErrArg, nothing, 0, whatever it is asked, again and again.
func notGiven(t *testing.T, name string, l *link.Link) {
	t.Helper()
	calls := []call{{name: "Tick"}}
	for _, n := range append(wrongNotes(), payload(1), sizedNotes(1 << 15)[0]) {
		calls = append(calls, call{name: "Put", note: n})
	}
	for _, s := range somePackets() {
		calls = append(calls, call{name: "Take", packet: s})
	}
	for range 2 {
		for _, c := range calls {
			want := answer{}
			if c.name == "Put" {
				want.err = api.ErrArg
			}
			if a := c.of(l); !a.same(want) {
				t.Errorf("%s, %v: %v, want %v", name, c, a, want)
			}
		}
	}
}

// R1: nil, and ends that New did not give; a copy of one that it gave is none of these either.
func TestNotGiven(t *testing.T) {
	var none link.Link
	notGiven(t, "nil", nil)
	notGiven(t, "zero", &none)
	notGiven(t, "new", new(link.Link))
	refused, _ := link.New(0)
	notGiven(t, "refused", refused)
	for _, s := range states() {
		l := s.make(t)
		was := standing(l)
		other := *l
		notGiven(t, "a copy of: "+s.name, &other)
		none = *l
		notGiven(t, "a zero one that became a copy of: "+s.name, &none)
		if is := standing(l); !is.same(was) {
			t.Errorf("%s: its copies were asked, and it stands %v, stood %v", s.name, is, was)
		}
	}
}

// R1: packets and payloads of all kinds, at ends of all kinds: no call panics, and beside an error there is nothing.
func TestAtAll(t *testing.T) {
	r := rand.New(rand.NewSource(158))
	for _, s := range states() {
		for _, p := range somePackets() {
			s.make(t).Take(p)
		}
		l := s.make(t)
		for range 2000 {
			b := make([]byte, r.Intn(64))
			r.Read(b)
			l.Take(string(b))
			l.Take(sealed(string(b)))
		}
		for _, n := range append(wrongNotes(), payload(1), sizedNotes(1 << 15)[1], sizedNotes(1 << 16)[2]) {
			if packets, e := l.Put(n); e != api.OK && len(packets) != 0 {
				t.Errorf("%s: Put(%s): %d packets beside %d", s.name, brief(n), len(packets), e)
			}
		}
	}
}

// R2: what is refused, and of which nothing comes, changes nothing that a later call could tell: an end of all calls answers like one of the others alone.
func TestRefusedChangesNothing(t *testing.T) {
	x := &chance{Rand: rand.New(rand.NewSource(159))}
	left := 0
	for range 300 {
		r := &record{epoch: 3}
		all, some := made(t, 3), made(t, 3)
		x.born, x.kept = 1, nil
		x.peer, _ = link.New(1)
		for range 80 {
			x.others(r)
			c := x.call(r)
			was := standing(all)
			c.by(r)
			a := c.of(all)
			if nothing := c.name == "Take" && sameCame(a.came, link.Came{}) && standing(all).same(was); nothing || a.err != api.OK {
				left++
			} else if other := c.of(some); !a.same(other) {
				t.Fatalf("%v: %v, without what was refused %v", c, a, other)
			}
			if is, other := standing(all), standing(some); !is.same(other) {
				t.Fatalf("%v: it stands %v, without what was refused %v", c, is, other)
			}
		}
	}
	if left < 5000 {
		t.Errorf("%d were refused, or brought nothing", left)
	}
}

// cloned is a note of memory of its own.
func cloned(n api.Note) api.Note {
	var rows [][]string
	for _, r := range n.Rows {
		rows = append(rows, slices.Clone(r))
	}
	return api.Note{Kind: n.Kind, Nums: slices.Clone(n.Nums), Texts: slices.Clone(n.Texts), Rows: rows}
}

// spoil writes over all that a note's lists have.
func spoil(n api.Note) {
	for i := range n.Nums {
		n.Nums[i] = 77
	}
	for i := range n.Texts {
		n.Texts[i] = "spoilt"
	}
	for _, r := range n.Rows {
		for i := range r {
			r[i] = "spoilt"
		}
	}
	for i := range n.Rows {
		n.Rows[i] = []string{"spoilt"}
	}
}

// great is a note of all that a note may have, with room behind the ends of its lists, and these lists with their room.
func great() (n api.Note, rooms api.Note) {
	nums, texts, row := []int{1, 2, -9}, []string{"a", "b", "room"}, []string{"c", "room"}
	rows := [][]string{row[:1], {"d"}, row}
	return api.Note{Kind: 4, Nums: nums[:2], Texts: texts[:2], Rows: rows[:2]}, api.Note{Nums: nums, Texts: texts, Rows: rows}
}

// R3: a payload is not changed, nor what lies behind its lists' ends; and if it is changed later on, what was put is not.
func TestPutKeeps(t *testing.T) {
	l := made(t, 3)
	n, rooms := great()
	was, roomsWere := cloned(n), cloned(rooms)
	puts(t, l, n, carrying(3, 0, 1, 1, was))
	l.Tick()
	l.Take(telling(7, 3, 1))
	if !sameNote(n, was) || !sameNote(rooms, roomsWere) {
		t.Errorf("Put has changed %v, %v to %v, %v", was, roomsWere, n, rooms)
	}
	spoil(n)
	tells(t, "Tick", l.Tick(), carrying(3, 7, 1, 1, was))
	for _, wrong := range wrongNotes() {
		before := cloned(wrong)
		l.Put(wrong)
		if !sameNote(wrong, before) {
			t.Errorf("Put has changed %s", brief(before))
		}
	}
}

// R3: what is answered is new memory: whoever writes over it changes nothing, and later calls change nothing of it.
func TestAnswersAreNew(t *testing.T) {
	l := made(t, 3)
	var kept [][]string
	var want [][]string
	keep := func(packets []string) {
		kept, want = append(kept, packets), append(want, slices.Clone(packets))
	}
	first, _ := l.Put(payload(1))
	keep(first)
	putMany(t, l, 2, 200)
	keep(l.Tick())
	n, _ := great()
	c := l.Take(carrying(7, 3, 1, 1, n))
	came := cloned(c.Payloads[0])
	keep(c.Packets)
	keep(l.Tick())
	l.Take(telling(7, 3, 50))
	keep(l.Tick())
	putMany(t, l, 201, 300)
	l.Take(carrying(9, 3, 1, 9, payload(8)))
	putMany(t, l, 1, 10)
	keep(l.Tick())
	for i := range kept {
		if !slices.Equal(kept[i], want[i]) {
			t.Errorf("what was answered as %d has changed", i)
		}
	}
	if !sameNote(c.Payloads[0], came) {
		t.Error("a payload that has come has changed")
	}
	was := standing(l)
	for i := range kept {
		for k := range kept[i] {
			kept[i][k] = "spoilt"
		}
		_ = append(kept[i][:0], "spoilt", "spoilt")
	}
	spoil(c.Payloads[0])
	if is := standing(l); !is.same(was) {
		t.Errorf("what was answered was written over, and it stands %v, stood %v", is, was)
	}
}

// R3: one packet that is taken by two ends brings payloads that share nothing.
func TestPayloadsShareNothing(t *testing.T) {
	n, _ := great()
	s := carrying(7, 3, 1, 1, n)
	a, b := made(t, 3).Take(s), made(t, 3).Take(s)
	spoil(a.Payloads[0])
	if !sameNote(b.Payloads[0], n) {
		t.Errorf("%v, want %v", b.Payloads[0], n)
	}
	if s != carrying(7, 3, 1, 1, n) {
		t.Error("the packet has changed")
	}
}

// R3, R4: Tick, Waits and Other change nothing.
func TestAskedOften(t *testing.T) {
	for _, s := range states() {
		l := s.make(t)
		was := standing(l)
		for range 20 {
			if is := standing(l); !is.same(was) {
				t.Fatalf("%s: it stands %v, stood %v", s.name, is, was)
			}
		}
	}
}

// R3: ends share nothing, be their epochs the same or not: scripts that are mixed are answered as each alone.
func TestShareNothing(t *testing.T) {
	x := &chance{Rand: rand.New(rand.NewSource(160))}
	for range 60 {
		var all []*held
		for i := range 4 {
			all = append(all, newHeld(t, 1+i/2))
		}
		x.born, x.kept = 1, nil
		x.peer, _ = link.New(1)
		for range 150 {
			h := one(x.Rand, all...)
			x.others(h.r)
			h.do(x.call(h.r))
		}
	}
}

// script is calls by chance, and what an end of epoch 3 answers to them.
func script(t *testing.T, x *chance) ([]call, []answer) {
	h := newHeld(t, 3)
	x.born, x.kept = 1, nil
	x.peer, _ = link.New(1)
	var answers []answer
	for range 60 {
		x.others(h.r)
		answers = append(answers, h.do(x.call(h.r)))
	}
	return h.calls, answers
}

// R4: the same calls have the same answers, also at the same time on other ends.
func TestSameAnswer(t *testing.T) {
	x := &chance{Rand: rand.New(rand.NewSource(161))}
	var scripts [][]call
	var want [][]answer
	for range 40 {
		calls, answers := script(t, x)
		scripts, want = append(scripts, calls), append(want, answers)
	}
	var wait sync.WaitGroup
	for range 8 {
		wait.Go(func() {
			for i, calls := range scripts {
				l, _ := link.New(3)
				for k, c := range calls {
					if a := c.of(l); !a.same(want[i][k]) {
						t.Errorf("script %d, %v: %v, want %v", i, c, a, want[i][k])
						return
					}
				}
			}
		})
	}
	wait.Wait()
}

// inUse is how many bytes are kept of all that was made.
func inUse() int {
	var m runtime.MemStats
	runtime.GC()
	runtime.ReadMemStats(&m)
	return int(m.HeapAlloc)
}

// What is kept is no more than the promises need: nothing of payloads that are gone, or dropped, nor of those that have come.
func TestKeepsNoMore(t *testing.T) {
	n := sizedNotes(1 << 15)[0]
	for _, behind := range []string{telling(7, 3, 400), telling(7, 3, 401), telling(8, 3, 1)} {
		l := made(t, 3)
		l.Take(telling(7, 3, 1))
		at := inUse()
		for range 400 {
			if _, e := l.Put(n); e != api.OK {
				t.Fatalf("Put: %d", e)
			}
		}
		if more := inUse() - at; more < 10<<20 {
			t.Fatalf("400 payloads wait, in %d bytes", more)
		}
		l.Take(behind)
		if more := inUse() - at; more > 1<<20 {
			t.Errorf("%d wait, in %d bytes", l.Waits(), more)
		}
		for k := range 400 {
			l.Take(carrying(l.Other(), 3, k+1, 1, n))
		}
		if more := inUse() - at; more > 1<<20 {
			t.Errorf("400 have come, and %d bytes are kept", more)
		}
		runtime.KeepAlive(l)
	}
}
