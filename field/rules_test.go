package field_test

import (
	"math"
	"math/rand"
	"runtime"
	"slices"
	"strings"
	"sync"
	"testing"

	"sinew/api"
	"sinew/field"
)

// state is how a field may stand: what was done with it.
type state struct {
	name  string
	nodes int
	calls []call
}

// states are fields of all kinds.
func states() []state {
	many := make([]call, 0, most)
	for k := range most {
		many = append(many, send(k%3, k%2, "x"))
	}
	return []state{
		{"new", 3, nil},
		{"of one node", 1, nil},
		{"one is under way", 2, []call{send(0, 1, "a")}},
		{"one was under way", 2, []call{send(1, 0, "a"), arrive(1)}},
		{"a copy alone", 65, []call{send(64, 0, "a"), copyOf(1), arrive(1)}},
		{"some", 3, []call{send(0, 1, "a"), send(2, 1, ""), copyOf(1), send(2, 0, "b"), arrive(2), copyOf(3)}},
		{"nearly full", 3, many[:most-1]},
		{"full", 3, many},
	}
}

func (s state) make(t *testing.T) *field.Field {
	t.Helper()
	f := made(t, s.nodes)
	for _, c := range s.calls {
		if a := c.of(f); a.err != api.OK {
			t.Fatalf("%s: %v: %v", s.name, c, a)
		}
	}
	return f
}

// allCalls are calls with arguments of all kinds.
func allCalls() (l []call) {
	ids := append([]int{0, 1, 2, 3, 4, 5, 6, 64, 65, 66, most - 1, most, most + 1}, outside...)
	for _, n := range ids {
		l = append(l, arrive(n), copyOf(n), send(n, 0, "a"), send(0, n, "a"), send(n, n, ""))
	}
	for _, size := range []int{0, 1, 1<<20 + 64, 1<<20 + 65, 1 << 22} {
		l = append(l, send(0, 0, strings.Repeat("x", size)), send(-1, 65, strings.Repeat("x", size)))
	}
	return l
}

// notGiven is a field that New did not give: ErrArg, nothing, -1, whatever it is asked, again and again.
func notGiven(t *testing.T, name string, f *field.Field) {
	t.Helper()
	for range 2 {
		for _, c := range allCalls() {
			if a := c.of(f); a != (answer{err: api.ErrArg}) {
				t.Errorf("%s, %v: %v, want ErrArg", name, c, a)
			}
		}
		for _, n := range append([]int{0, 1, 2, 64, 65}, outside...) {
			if l, ids, p := f.To(n), f.Ids(), f.Pick(n); len(l) != 0 || len(ids) != 0 || p != -1 {
				t.Errorf("%s: To(%d) %v, Ids %v, Pick(%d) %d, want nothing, -1", name, n, l, ids, n, p)
			}
		}
	}
}

// R1: nil, and fields that New did not give; a copy of one that it gave is none of these either.
func TestNotGiven(t *testing.T) {
	var none field.Field
	notGiven(t, "nil", nil)
	notGiven(t, "zero", &none)
	notGiven(t, "new", new(field.Field))
	refused, _ := field.New(66)
	notGiven(t, "refused", refused)
	for _, s := range states() {
		f := s.make(t)
		was := stateOf(f)
		other := *f
		notGiven(t, "a copy of: "+s.name, &other)
		none = *f
		notGiven(t, "a zero one that became a copy of: "+s.name, &none)
		if is := stateOf(f); !is.same(was) {
			t.Errorf("%s: its copies were asked, and it stands %v, stood %v", s.name, is, was)
		}
	}
}

// R1, R2: each call with arguments of all kinds, on fields of all kinds: no call panics, and what is refused has nothing beside the error, and changes nothing.
func TestAtAll(t *testing.T) {
	for _, s := range states() {
		f := s.make(t)
		for _, c := range allCalls() {
			was := stateOf(f)
			a := c.of(f)
			switch a.err {
			case api.OK:
				// It is a field of that kind again.
				f = s.make(t)
			case api.ErrArg, api.ErrFull, api.ErrNone:
				if a != (answer{err: a.err}) || !stateOf(f).same(was) {
					t.Errorf("%s: %v: %v, and it stands %v, stood %v", s.name, c, a, stateOf(f), was)
				}
			default:
				t.Errorf("%s: %v: error %d", s.name, c, a.err)
			}
		}
		for _, n := range append(upTo(-70, 70), outside...) {
			f.Pick(n)
			if l := f.To(n); n >= s.nodes && len(l) != 0 {
				t.Errorf("%s: To(%d): %v", s.name, n, l)
			}
		}
	}
}

// R2: what is refused changes nothing that a later call could tell: a field of all calls answers like one of those alone that were not refused.
func TestRefusedChangesNothing(t *testing.T) {
	r := rand.New(rand.NewSource(166))
	refused := 0
	for range 300 {
		b := &ledger{nodes: 1 + r.Intn(3)}
		all, some := made(t, b.nodes), made(t, b.nodes)
		for range 100 {
			c := chanceCall(r, b, 6)
			c.of(b)
			a := c.of(all)
			if a.err != api.OK {
				refused++
			} else if other := c.of(some); a != other {
				t.Fatalf("%v: %v, without what was refused %v", c, a, other)
			}
			if is, other := stateOf(all), stateOf(some); !is.same(other) {
				t.Fatalf("%v: it stands %v, without what was refused %v", c, is, other)
			}
		}
	}
	if refused < 5000 {
		t.Errorf("%d were refused", refused)
	}
}

// R3: of a piece of a text just the piece is sent, and the bytes from which a text was made may be written over.
func TestPieces(t *testing.T) {
	f := made(t, 1)
	buffer := []byte("ahead-piece-behind")
	text := string(buffer)
	gives(t, f, send(0, 0, text[6:11]), 1)
	gives(t, f, send(0, 0, string(buffer[6:11])), 2)
	gives(t, f, send(0, 0, text[18:]), 3)
	gives(t, f, copyOf(1), 4)
	clear(buffer)
	for id, want := range map[int]string{1: "piece", 2: "piece", 3: "", 4: "piece"} {
		arrives(t, f, api.Packet{Id: id, Bytes: want})
	}
	if text != "ahead-piece-behind" {
		t.Errorf("%q", text)
	}
}

// R3: what is answered is new memory: later calls change nothing of it, and whoever writes over it changes nothing.
func TestAnswersAreNew(t *testing.T) {
	f := made(t, 2)
	var kept, want [][]int
	keep := func() {
		for _, l := range [][]int{f.Ids(), f.Ids(), f.To(0), f.To(1), f.To(0)} {
			kept, want = append(kept, l), append(want, slices.Clone(l))
		}
	}
	for k := 1; k <= 300; k++ {
		gives(t, f, send(0, k%2, "x"), k)
		keep()
	}
	for k := 300; k > 20; k -= 3 {
		f.Arrive(k)
		keep()
		f.Copy(k - 1)
		f.Arrive(k - 1)
		keep()
	}
	for i := range kept {
		if !slices.Equal(kept[i], want[i]) {
			t.Fatalf("what was answered as %d has changed", i)
		}
	}
	was := stateOf(f)
	for i := range kept {
		// Those ahead were written over.
		if !slices.Equal(kept[i], want[i]) {
			t.Fatalf("answers share memory: that of %d has changed", i)
		}
		for k := range kept[i] {
			kept[i][k] = -7
		}
		_ = append(kept[i], -8)
		_ = append(kept[i][:0], -9, -9)
	}
	if is := stateOf(f); !is.same(was) {
		t.Errorf("what was answered was written over, and it stands %v, stood %v", is, was)
	}
	gives(t, f, send(0, 0, "x"), f.Ids()[len(f.Ids())-1]+1)
}

// R3, R4: Ids, Pick and To change nothing.
func TestAskedOften(t *testing.T) {
	for _, s := range states() {
		f := s.make(t)
		was := stateOf(f)
		for range 20 {
			if is := stateOf(f); !is.same(was) {
				t.Fatalf("%s: it stands %v, stood %v", s.name, is, was)
			}
		}
	}
}

// R3: two fields share nothing, be they of as many nodes or not: scripts that are mixed are answered as each alone.
func TestShareNothing(t *testing.T) {
	r := rand.New(rand.NewSource(167))
	for range 100 {
		var all []*held
		for i := range 4 {
			all = append(all, newHeld(t, 2+i/2))
		}
		for range 150 {
			h := one(r, all...)
			h.do(chanceCall(r, h.b, 6))
		}
	}
}

// R4: the same calls have the same answers, also at the same time on other fields, and however many nodes there are beside those that are named.
func TestSameAnswer(t *testing.T) {
	r := rand.New(rand.NewSource(168))
	var scripts [][]call
	var want [][]answer
	for range 60 {
		h := newHeld(t, 4)
		var answers []answer
		for range 80 {
			c := chanceCall(r, h.b, 7)
			// All nodes are there, or none such in any field.
			c.from, c.to = max(min(c.from, 3), -1), max(min(c.to, 3), -1)
			answers = append(answers, h.do(c))
		}
		scripts, want = append(scripts, h.calls), append(want, answers)
	}
	var wait sync.WaitGroup
	for g := range 8 {
		wait.Go(func() {
			for i, calls := range scripts {
				f, _ := field.New(4 + g)
				for k, c := range calls {
					if a := c.of(f); a != want[i][k] {
						t.Errorf("script %d, %v: %v, want %v", i, c, a, want[i][k])
						return
					}
				}
			}
		})
	}
	wait.Wait()
}

// inUse is how many bytes are kept of all that was made.
func inUse() int {
	var m runtime.MemStats
	runtime.GC()
	runtime.ReadMemStats(&m)
	return int(m.HeapAlloc)
}

// What is kept is no more than the promises need: nothing of packets that have arrived.
func TestKeepsNoMore(t *testing.T) {
	f := made(t, 2)
	at := inUse()
	for k := range 200 {
		if n, e := f.Send(0, 1, strings.Repeat("x", 1<<16+k)); n != k+1 || e != api.OK {
			t.Fatalf("Send: %d, %d", n, e)
		}
	}
	if more := inUse() - at; more < 10<<20 {
		t.Fatalf("200 packets are under way, in %d bytes", more)
	}
	for range 200 {
		if _, e := f.Arrive(f.Pick(math.MaxInt)); e != api.OK {
			t.Fatalf("Arrive: %d", e)
		}
	}
	if more := inUse() - at; more > 1<<20 {
		t.Errorf("nothing is under way, in %d bytes", more)
	}
	for k := range 20 * most {
		n, e := f.Send(1, 0, "y")
		if e != api.OK || n != 201+k {
			t.Fatalf("Send: %d, %d", n, e)
		}
		f.Arrive(n)
	}
	if more := inUse() - at; more > 1<<20 {
		t.Errorf("%d have come and gone, and %d bytes are kept", 20*most, more)
	}
	runtime.KeepAlive(f)
}
