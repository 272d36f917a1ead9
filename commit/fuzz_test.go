package commit_test

import (
	"math/rand"
	"slices"
	"testing"

	"sinew/api"
	"sinew/commit"
	"sinew/wire"
)

// chances are what bytes tell, two by two, and then always the same.
type chances struct {
	left []byte
}

func (c *chances) Seed(int64) {}

func (c *chances) Int63() int64 {
	if len(c.left) < 2 {
		c.left = nil
		return 0
	}
	n := uint64(c.left[0])<<8 | uint64(c.left[1])
	c.left = c.left[2:]
	return int64((n + 1) * 0x9e3779b97f4a7c15 >> 1)
}

// FuzzScript: whatever happens, each node answers as the chapter says, and in the end all workers have done the same batches.
func FuzzScript(f *testing.F) {
	r := rand.New(rand.NewSource(186))
	for workers := range 4 {
		b := make([]byte, 500)
		r.Read(b)
		f.Add(byte(workers), byte(30*workers), b)
	}
	f.Fuzz(func(t *testing.T, workers, crashes byte, script []byte) {
		c := &chances{left: script}
		s := &storm{Rand: rand.New(c), world: newWorld(t, 1+int(workers)%8), crashes: int(crashes), counts: map[string]int{}}
		for range 2000 {
			if len(c.left) == 0 {
				break
			}
			s.happen()
		}
		s.settle()
		s.agrees()
	})
}

// stepped is a world of two workers behind so many notes of two batches, or all of them.
func stepped(t testing.TB, steps int) *world {
	t.Helper()
	w := newWorld(t, 2)
	for i := range 2 {
		l := w.begin(id(i), append(coming("a", "b", "c"), going("a")...)[i:])
		w.send(l)
		for len(l) > 0 && steps > 0 {
			steps--
			out, _ := w.come(l[0])
			w.send(out)
			l = append(l[1:], out...)
		}
		if steps == 0 {
			break
		}
	}
	return w
}

// FuzzTake: whatever bytes a note is, nothing comes of it, if it is not one that went; and no call panics, though its sum may be right.
func FuzzTake(f *testing.F) {
	for i, m := range stepped(f, 100).all {
		s, _ := wire.Pack(m.note)
		f.Add(byte(i), m.to, m.from, s[8:], false)
		f.Add(byte(i), m.to, m.from, s[8:], true)
	}
	f.Fuzz(func(t *testing.T, at byte, to, from int, body string, right bool) {
		n, ok := noteOf(body, right)
		if !ok || to < 0 || to > 2 {
			return
		}
		w := stepped(t, int(at)%20)
		if slices.ContainsFunc(stepped(t, 100).all, func(m mail) bool { return sameNote(m.note, n) }) {
			return
		}
		if write, out := w.take(to, from, n); !right && len(write)+len(out) > 0 {
			t.Fatalf("%v of %d to %d: %v, %v", n, from, to, write, out)
		}
		if !right {
			w.settle()
			w.agrees()
		}
	})
}

// FuzzJournal: whatever bytes a journal is, whoever begins from it stands as it says, or does not begin at all; and cut anywhere it is one, too.
func FuzzJournal(f *testing.F) {
	for _, b := range stepped(f, 100).books {
		var all string
		for _, n := range b {
			s, _ := wire.Pack(n)
			all += s
		}
		f.Add(byte(2), all)
	}
	f.Fuzz(func(t *testing.T, workers byte, bytes string) {
		l, _ := wire.All(bytes)
		for i, n := range l {
			if len(n.Nums) > 0 {
				l[i].Nums[len(n.Nums)-1] = sum(n)
			}
		}
		h, e := commit.NewHead(int(workers), l)
		p, err := commit.NewPart(l)
		for cut := range l {
			if _, cutOf := commit.NewHead(int(workers), l[:cut]); e == api.OK && cutOf != api.OK {
				t.Fatalf("%v is a head's, but not cut behind %d", l, cut)
			}
			if _, cutOf := commit.NewPart(l[:cut]); err == api.OK && cutOf != api.OK {
				t.Fatalf("%v is a worker's, but not cut behind %d", l, cut)
			}
		}
		if e == api.OK && (h.Version() > len(l)/2 || len(h.Order()) != h.Version() || h.Busy() != (len(l) > 0)) {
			t.Fatalf("%v: version %d, %v, busy %t", l, h.Version(), h.Order(), h.Busy())
		}
		if err == api.OK && p.Store().Version() > len(l)/2 {
			t.Fatalf("%v: version %d", l, p.Store().Version())
		}
	})
}
