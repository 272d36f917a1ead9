package link_test

import (
	"math/rand"
	"strings"
	"testing"

	"sinew/api"
	"sinew/link"
)

// held is an end and the plain reading of it: each call is done with both, and their answers are held against each other.
type held struct {
	t     *testing.T
	l     *link.Link
	r     *record
	calls []call
}

func newHeld(t *testing.T, epoch int) *held {
	return &held{t: t, l: made(t, epoch), r: &record{epoch: epoch}}
}

func (h *held) do(c call) answer {
	h.t.Helper()
	want := c.by(h.r)
	a := c.of(h.l)
	if !a.same(want) {
		h.t.Fatalf("epoch %d: behind %v, %v: %v, want %v", h.r.epoch, h.calls, c, a, want)
	}
	h.calls = append(h.calls, c)
	return a
}

// Li1, Li2: all short scripts of a few calls.
func TestShortScripts(t *testing.T) {
	n := payload(1)
	some := []call{{name: "Put", note: n}, {name: "Put"}}
	for _, p := range []string{telling(1, 2, 1), telling(1, 2, 2), telling(1, 0, 3), carrying(1, 2, 1, 1, n), carrying(1, 2, 2, 3, n), telling(2, 2, 2), carrying(2, 0, 1, 1, n), carrying(2, 2, 1, 2, n)} {
		some = append(some, call{name: "Take", packet: p})
	}
	var script [5]call
	var from func(at int)
	from = func(at int) {
		if at == len(script) {
			h := newHeld(t, 2)
			for _, c := range script {
				h.do(c)
			}
			return
		}
		for _, c := range some {
			script[at] = c
			from(at + 1)
		}
	}
	from(0)
}

// chance makes up what is done with an end.
type chance struct {
	*rand.Rand
	// kept are packets of an end at the other side, and of those that were there ahead of it.
	kept []string
	peer *link.Link
	born int
}

func one[T any](r *rand.Rand, l ...T) T { return l[r.Intn(len(l))] }

func (x *chance) text() string {
	b := make([]byte, x.Intn(5))
	x.Read(b)
	return string(b)
}

// note is one that may be, or now and then may not.
func (x *chance) note() api.Note {
	n := api.Note{Kind: 1 + x.Intn(255)}
	switch x.Intn(60) {
	case 0:
		n.Texts = []string{strings.Repeat("x", 1<<15-17+x.Intn(2))}
	case 1, 2, 3, 4:
		return one(x.Rand, api.Note{}, api.Note{Kind: 256}, api.Note{Kind: 1, Nums: []int{-1}}, api.Note{Kind: 1, Nums: make([]int, 65)})
	case 5, 6, 7, 8, 9, 10:
		n.Texts, n.Rows = []string{x.text()}, [][]string{{x.text(), x.text()}, {}}
	default:
		n.Nums = []int{x.Intn(1000)}
	}
	return n
}

// number is one about some others.
func (x *chance) number(about ...int) int {
	return max(one(x.Rand, about...)+x.Intn(3)-1, 0)
}

// madeUp is a packet by hand, for an end as it stands.
func (x *chance) madeUp(r *record) string {
	epoch, other := r.other, r.epoch
	if x.Intn(4) == 0 {
		epoch = x.number(0, r.other, r.other, 1<<41)
	}
	if x.Intn(6) == 0 {
		other = x.number(0, r.epoch)
	}
	first := len(r.put) + 1
	if w := r.waiting(); len(w) > 0 {
		first = w[0]
	}
	wants := one(x.Rand, x.number(first), x.number(first, len(r.put)+1), first+x.Intn(9), 0, 1<<62-1)
	if x.Intn(3) == 0 {
		return telling(epoch, other, wants)
	}
	// Of a note that may not be, the packet is none.
	return carrying(epoch, other, one(x.Rand, r.wants(), r.wants(), x.number(r.wants()), x.Intn(100)), wants, x.note())
}

// damaged is a packet of which some bytes are others, are missing or are too many.
func (x *chance) damaged(s string) string {
	at := x.Intn(len(s) + 1)
	switch x.Intn(4) {
	case 0:
		return s[:at]
	case 1:
		return s[:at] + x.text() + s[at:]
	case 2:
		return s + one(x.Rand, append([]string{s}, x.kept...)...)
	default:
		return s[:at] + "\xff" + s[min(at+1, len(s)):]
	}
}

// others lets the end at the other side do something: what it sends is kept.
func (x *chance) others(r *record) {
	switch x.Intn(9) {
	case 0:
		x.born += 1 + x.Intn(2)
		x.peer, _ = link.New(x.born)
	case 1, 2, 3:
		packets, _ := x.peer.Put(x.note())
		x.kept = append(x.kept, packets...)
	case 4, 5:
		x.kept = append(x.kept, x.peer.Tick()...)
	default:
		// It takes what the end would send at a tick, and how it stands.
		packets := append(r.tick(), r.tells()...)
		for range 1 + x.Intn(4) {
			x.kept = append(x.kept, x.peer.Take(one(x.Rand, packets...)).Packets...)
		}
	}
	// Those of long ago are lost at last.
	x.kept = x.kept[max(len(x.kept)-40, 0):]
}

// call is one of all kinds.
func (x *chance) call(r *record) call {
	switch x.Intn(10) {
	case 0, 1, 2:
		return call{name: "Put", note: x.note()}
	case 3:
		return call{name: "Tick"}
	case 4:
		return call{name: "Take", packet: x.damaged(x.madeUp(r))}
	case 5, 6:
		return call{name: "Take", packet: x.madeUp(r)}
	default:
		if len(x.kept) == 0 {
			return call{name: "Take", packet: x.text()}
		}
		// The last ones are of the end that is there now.
		at := max(len(x.kept)-1-x.Intn(8), 0)
		if x.Intn(3) == 0 {
			at = x.Intn(len(x.kept))
		}
		return call{name: "Take", packet: x.kept[at]}
	}
}

// Li1, Li2: scripts that look like chance and are the same in every run.
func TestChanceScripts(t *testing.T) {
	x := &chance{Rand: rand.New(rand.NewSource(154))}
	came, anew, gone, refused, nothing := 0, 0, 0, 0, 0
	for range 1500 {
		h := newHeld(t, one(x.Rand, 1, 2, 3, 1<<40))
		x.born, x.kept = one(x.Rand, 1, 2, 1<<40-3), nil
		x.peer, _ = link.New(x.born)
		waits := 0
		for range 20 + x.Intn(80) {
			x.others(h.r)
			c := x.call(h.r)
			a := h.do(c)
			came += len(a.came.Payloads)
			switch {
			case a.came.Anew:
				anew++
			case a.waits < waits:
				gone++
			case a.err != api.OK:
				refused++
			case c.name == "Take" && sameCame(a.came, link.Came{}):
				nothing++
			}
			waits = a.waits
		}
	}
	// What the scripts are to reach.
	if came < 5000 || anew < 2000 || gone < 2000 || refused < 1000 || nothing < 5000 {
		t.Errorf("%d came, %d times anew, %d times some were gone, %d were refused, %d times nothing came", came, anew, gone, refused, nothing)
	}
}

// Li1, Li2: scripts of many payloads, about the window and about how many may wait.
func TestGreatScripts(t *testing.T) {
	for i, about := range []int{60, 64, 130, 4090} {
		x := &chance{Rand: rand.New(rand.NewSource(int64(155 + i)))}
		h := newHeld(t, 5)
		h.do(call{name: "Take", packet: telling(4, 5, 1)})
		full := 0
		for range about {
			n := payload(len(h.r.put))
			h.r.putNote(n)
			h.l.Put(n)
		}
		for range 150 {
			if len(h.r.waiting()) > about+6 || x.Intn(20) == 0 {
				h.do(call{name: "Take", packet: telling(4, 5, h.r.waiting()[0]+x.Intn(20))})
			}
			if a := h.do(call{name: "Put", note: payload(len(h.r.put))}); a.err == api.ErrFull {
				full++
			}
			h.calls = nil
		}
		if about == 4090 && full == 0 {
			t.Error("it was never full")
		}
	}
}

// Li1, Li2: scripts read from bytes.
func FuzzScript(f *testing.F) {
	f.Add([]byte{})
	f.Add([]byte{1, 0, 5, 1, 0, 2, 1, 1, 1, 1, 3, 1, 1, 1, 2, 2, 1, 1, 2, 0})
	f.Add([]byte{7, 0, 1, 0, 2, 0, 3, 3, 4, 0, 1, 1, 2, 5, 7, 3, 0, 3, 6, 7, 1, 1, 3, 9, 7, 1, 2})
	f.Add([]byte{255, 3, 1, 255, 1, 1, 3, 1, 255, 2, 1, 4, 0, 0, 5, 9, 6, 40})
	f.Fuzz(func(t *testing.T, script []byte) {
		if len(script) == 0 || len(script) > 300 {
			return
		}
		h := newHeld(t, 1+int(script[0]))
		rest := append(script[1:len(script):len(script)], 0, 0, 0, 0, 0)
		for len(rest) > 5 {
			kind, a, b, c, d := rest[0], int(rest[1]), int(rest[2]), int(rest[3]), int(rest[4])
			switch kind % 6 {
			case 0:
				h.do(call{name: "Put", note: payload(a)})
			case 1:
				for range a {
					h.l.Put(payload(b))
					h.r.putNote(payload(b))
				}
			case 2:
				h.do(call{name: "Take", packet: telling(a, b, c)})
			case 3:
				h.do(call{name: "Take", packet: carrying(a, b, c, d, payload(a))})
			case 4:
				h.do(call{name: "Take", packet: telling(h.r.other+a/128, h.r.epoch, len(h.r.put)+1-b)})
			case 5:
				h.do(call{name: "Take", packet: carrying(h.r.other+a/128, h.r.epoch, h.r.wants()+b/128, c, payload(d))})
			}
			rest = rest[1+int(kind/6)%5:]
		}
	})
}

// Li2: bytes that may be packets, or not.
func FuzzTake(f *testing.F) {
	for _, s := range []string{"", telling(1, 3, 1), telling(9, 3, 2), telling(7, 0, 1), carrying(7, 3, 1, 1, payload(1)), carrying(7, 3, 2, 3, payload(1)), carrying(8, 3, 1, 1, payload(300))} {
		f.Add(s, true)
		if s != "" {
			f.Add(s[8:], false)
		}
	}
	f.Fuzz(func(t *testing.T, s string, whole bool) {
		if !whole {
			// Else hardly any bytes would have the sum that belongs to them.
			s = sealed(s)
		}
		for _, other := range []int{0, 7} {
			h := newHeld(t, 3)
			h.do(call{name: "Put", note: payload(1)})
			h.do(call{name: "Put", note: payload(2)})
			h.do(call{name: "Take", packet: telling(other, 3, 1)})
			h.do(call{name: "Take", packet: s})
			h.do(call{name: "Take", packet: telling(h.r.other, 0, 1)})
		}
	})
}
