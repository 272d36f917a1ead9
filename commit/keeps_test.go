package commit_test

import (
	"runtime"
	"strings"
	"testing"

	"sinew/api"
	"sinew/commit"
)

// size is how many bytes are kept of all that was made.
func size() int {
	runtime.GC()
	var m runtime.MemStats
	runtime.ReadMemStats(&m)
	return int(m.HeapAlloc)
}

// long is words that are pieces of a long text.
func long(words ...string) []string {
	s := strings.Repeat("x", 1<<20) + strings.Join(words, "")
	var l []string
	for at := 1 << 20; len(l) < len(words); at += len(words[len(l)-1]) {
		l = append(l, s[at:at+len(words[len(l)])])
	}
	return l
}

// What is kept is no more than the promises need: no texts of which words are pieces, be a batch under way or not, and nothing of notes.
func TestKeepsNoMore(t *testing.T) {
	at := size()
	var heads []*commit.Head
	var parts []*commit.Part
	for range 40 {
		h, _ := commit.NewHead(1, nil)
		p, _ := commit.NewPart(nil)
		for i := range 3 {
			write, out, e := h.Begin(id(i), coming(long("a", "b")...))
			if e != api.OK {
				t.Fatal(e)
			}
			n := out[0].Note
			for _, row := range n.Rows {
				copy(row, long(row...))
			}
			book, out := p.Take(n)
			if len(book) != 1 || len(out) != 1 {
				t.Fatal(book, out)
			}
			// A journal, too, may be of such texts.
			for _, row := range book[0].Rows {
				copy(row, long(row...))
			}
			again, _ := commit.NewPart(book)
			parts = append(parts, again)
			if i < 2 {
				_, out = h.Take(1, out[0].Note)
				_, out = p.Take(out[0].Note)
				h.Take(1, out[0].Note)
			}
			other, _ := commit.NewHead(1, write)
			heads = append(heads, other)
		}
		heads, parts = append(heads, h), append(parts, p)
	}
	if more := size() - at; more > 4<<20 {
		t.Errorf("%d bytes are kept", more)
	}
	runtime.KeepAlive(heads)
	runtime.KeepAlive(parts)
}

// Of batches that ended a head keeps their ids and versions alone.
func TestKeepsIds(t *testing.T) {
	const many = 3000
	w := newWorld(t, 1)
	at := size()
	for i := range many {
		_, out, _ := w.head.Begin(id(i), coming(homed("s", 64, 1, 1)...))
		for range 2 {
			_, answer := w.parts[0].Take(out[0].Note)
			_, out = w.head.Take(1, answer[0].Note)
		}
	}
	if w.head.Version() != many || w.parts[0].Store().Version() != many {
		t.Fatal(w.head.Version(), w.parts[0].Store().Version())
	}
	if more := size() - at; more > many*200 {
		t.Errorf("%d bytes are kept of %d batches", more, many)
	}
	runtime.KeepAlive(w)
}

// A batch that ended is not kept, neither by the head nor by parts, but for the facts that it made: of one that was refused there are none.
func TestKeepsNoBatch(t *testing.T) {
	const many = 200
	l := going(homed("some-subject-", 64, 1, 1)...)
	book := newWorld(t, 1)
	book.batch(id(0), l)
	at := size()
	var heads []*commit.Head
	var parts []*commit.Part
	for range many {
		h, _ := commit.NewHead(1, nil)
		p, _ := commit.NewPart(nil)
		_, out, _ := h.Begin(id(1), l)
		for range 2 {
			_, answer := p.Take(out[0].Note)
			_, out = h.Take(1, answer[0].Note)
		}
		again, e := commit.NewPart(book.books[1])
		if h.Version() != 1 || p.Store().Version() != 1 || e != api.OK {
			t.Fatal(h.Version(), p.Store().Version(), e)
		}
		heads, parts = append(heads, h), append(parts, p, again)
	}
	if more := size() - at; more > many*3000 {
		t.Errorf("%d bytes are kept of %d batches", more, many)
	}
	runtime.KeepAlive(heads)
	runtime.KeepAlive(parts)
}
