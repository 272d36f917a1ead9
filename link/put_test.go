package link_test

import (
	"math"
	"slices"
	"strings"
	"testing"

	"sinew/api"
	"sinew/link"
)

// made is an end of an epoch that may be.
func made(t *testing.T, epoch int) *link.Link {
	t.Helper()
	l, e := link.New(epoch)
	if l == nil || e != api.OK {
		t.Fatalf("New(%d): %v, %d", epoch, l, e)
	}
	return l
}

// payload is a small one, of a number.
func payload(k int) api.Note {
	return api.Note{Kind: 5, Nums: []int{k}}
}

// stands is how an end must stand.
func stands(t *testing.T, l *link.Link, waits, other int) {
	t.Helper()
	if l.Waits() != waits || l.Other() != other {
		t.Fatalf("Waits, Other: %d, %d, want %d, %d", l.Waits(), l.Other(), waits, other)
	}
}

// tells is that packets must be just these.
func tells(t *testing.T, name string, got []string, want ...string) {
	t.Helper()
	if slices.Equal(got, want) {
		return
	}
	t.Errorf("%s: %d packets, want %d", name, len(got), len(want))
	for i := range max(len(got), len(want)) {
		switch {
		case i >= len(got):
			t.Fatalf("%s: no packet %d, want %s", name, i, briefPacket(want[i]))
		case i >= len(want):
			t.Fatalf("%s: packet %d is %s, want none", name, i, briefPacket(got[i]))
		case got[i] != want[i]:
			t.Fatalf("%s: packet %d is %s, want %s", name, i, briefPacket(got[i]), briefPacket(want[i]))
		}
	}
}

// puts is a payload that must be taken, with these packets.
func puts(t *testing.T, l *link.Link, n api.Note, want ...string) {
	t.Helper()
	waits, other := l.Waits(), l.Other()
	packets, e := l.Put(n)
	if e != api.OK {
		t.Fatalf("Put(%s): %d", brief(n), e)
	}
	tells(t, "Put("+brief(n)+")", packets, want...)
	stands(t, l, waits+1, other)
}

// putMany puts the payloads of some numbers, whatever their packets are.
func putMany(t *testing.T, l *link.Link, from, to int) {
	t.Helper()
	for k := from; k <= to; k++ {
		if _, e := l.Put(payload(k)); e != api.OK {
			t.Fatalf("Put %d: %d", k, e)
		}
	}
}

// takes is what must come of a packet.
func takes(t *testing.T, l *link.Link, s string, want link.Came) {
	t.Helper()
	if c := l.Take(s); !sameCame(c, want) {
		t.Fatalf("Take(%s): %v, want %v", briefPacket(s), answer{came: c}, answer{came: want})
	}
}

// standing is all that can be told of an end without changing it.
func standing(l *link.Link) answer {
	a := answer{waits: l.Waits(), other: l.Other(), tick: l.Tick()}
	// Whoever is not known yet has sent nothing: 1 is wanted. Else it is told, if something was written to another epoch.
	if a.other != 0 {
		a.came = l.Take(telling(a.other, 0, math.MaxInt64>>1))
	}
	return a
}

// refuses is a payload that must be refused, with nothing beside the error, and behind which the end stands as it stood.
func refuses(t *testing.T, l *link.Link, n api.Note, want api.Errno) {
	t.Helper()
	was := standing(l)
	if packets, e := l.Put(n); len(packets) != 0 || e != want {
		t.Fatalf("Put(%s): %d packets, %d, want none, %d", brief(n), len(packets), e, want)
	}
	if is := standing(l); !is.same(was) {
		t.Fatalf("Put(%s): it stands %v, stood %v", brief(n), is, was)
	}
}

// outside are epochs that may not be.
var outside = []int{math.MinInt, math.MinInt32, -1<<40 - 1, -1 << 40, -1 << 32, -2, -1, 0, 1<<40 + 1, 1<<40 + 2, 1 << 41, 1<<40 + 1<<32, 1 << 62, math.MaxInt - 1, math.MaxInt}

// Li1: an epoch of 1 to 2^40; nothing is given beside an error.
func TestNew(t *testing.T) {
	for _, epoch := range []int{1, 2, 3, 255, 256, 1 << 31, 1 << 32, 1<<40 - 1, 1 << 40} {
		l := made(t, epoch)
		stands(t, l, 0, 0)
		tells(t, "Tick", l.Tick())
		puts(t, l, payload(7), carrying(epoch, 0, 1, 1, payload(7)))
	}
	for _, epoch := range outside {
		if l, e := link.New(epoch); l != nil || e != api.ErrArg {
			t.Errorf("New(%d): %v, %d, want none, ErrArg", epoch, l, e)
		}
	}
}

// repeat is a list of so many equal things.
func repeat[T any](many int, v T) []T {
	return slices.Repeat([]T{v}, many)
}

// wrongNotes are those that layer 3 refuses.
func wrongNotes() []api.Note {
	long := strings.Repeat("x", 1<<16)
	return []api.Note{
		{},
		{Kind: -1},
		{Kind: math.MinInt},
		{Kind: 256},
		{Kind: math.MaxInt},
		{Kind: 1, Nums: make([]int, 65)},
		{Kind: 1, Nums: []int{-1}},
		{Kind: 1, Nums: []int{0, math.MinInt}},
		{Kind: 1, Nums: []int{1 << 62}},
		{Kind: 1, Nums: []int{math.MaxInt}},
		{Kind: 1, Texts: make([]string, 4097)},
		{Kind: 1, Texts: []string{long + "x"}},
		{Kind: 1, Texts: repeat(17, long)},
		{Kind: 1, Rows: make([][]string, 4097)},
		{Kind: 1, Texts: make([]string, 4000), Rows: [][]string{make([]string, 97)}},
		{Kind: 1, Rows: [][]string{{long + "x"}}},
	}
}

// Li1: what layer 3 refuses is refused, however the end stands.
func TestPutWrong(t *testing.T) {
	l := made(t, 3)
	for _, n := range wrongNotes() {
		refuses(t, l, n, api.ErrArg)
	}
	putMany(t, l, 1, 2)
	l.Take(carrying(8, 3, 1, 2, payload(1)))
	for _, n := range wrongNotes() {
		refuses(t, l, n, api.ErrArg)
	}
	puts(t, l, payload(3), carrying(3, 8, 3, 2, payload(3)))
}

// sizedNotes are notes of unlike shapes whose bytes are so many.
func sizedNotes(size int) (l []api.Note) {
	shapes := []func(text string) api.Note{
		func(text string) api.Note { return api.Note{Kind: 255, Texts: []string{text}} },
		func(text string) api.Note {
			return api.Note{Kind: 1, Nums: repeat(64, 1<<62-1), Texts: repeat(1000, "ann"), Rows: [][]string{{"a"}, nil, {text, "b"}}}
		},
		func(text string) api.Note {
			return api.Note{Kind: 9, Rows: append(make([][]string, 4095), []string{text})}
		},
	}
	for _, shape := range shapes {
		// All these texts' lengths are numbers of two bytes.
		rest := size - len(noteBytes(shape(strings.Repeat("x", 256)))) + 256
		l = append(l, shape(strings.Repeat("\xff", rest)))
	}
	return l
}

// Li1: a payload's Pack has at most 2^15 bytes.
func TestPutSize(t *testing.T) {
	for _, size := range []int{1<<15 - 1, 1 << 15, 1<<15 + 1, 1<<15 + 2, 1 << 16} {
		for _, n := range sizedNotes(size) {
			if len(noteBytes(n)) != size {
				t.Fatalf("%d bytes, want %d", len(noteBytes(n)), size)
			}
			l := made(t, 1)
			if size > 1<<15 {
				refuses(t, l, n, api.ErrArg)
				puts(t, l, payload(1), carrying(1, 0, 1, 1, payload(1)))
				refuses(t, l, n, api.ErrArg)
			} else {
				puts(t, l, n, carrying(1, 0, 1, 1, n))
				tells(t, "Tick", l.Tick(), carrying(1, 0, 1, 1, n))
			}
		}
	}
	// Of all that layer 3 lets be, the greatest.
	great := api.Note{Kind: 1, Texts: append(repeat(15, strings.Repeat("x", 1<<16)), strings.Repeat("x", 1<<16-100))}
	refuses(t, made(t, 1), great, api.ErrArg)
}

// Li1: payloads of all that a note may have.
func TestPutKinds(t *testing.T) {
	l := made(t, 2)
	var want []string
	for i, n := range []api.Note{
		{Kind: 1},
		{Kind: 2, Nums: []int{1, 1, 1}},
		{Kind: 1, Nums: []int{2, 0, 1, 1}, Texts: []string{noteBytes(payload(1))}},
		{Kind: 255, Nums: []int{0, 1<<62 - 1}, Texts: []string{"", "\x00\xff"}, Rows: [][]string{{}, {"", "a"}}},
		{Kind: 7, Nums: repeat(64, 3)},
		{Kind: 8, Texts: make([]string, 4096)},
	} {
		want = append(want, carrying(2, 0, i+1, 1, n))
		puts(t, l, n, want[i])
	}
	tells(t, "Tick", l.Tick(), want...)
}

// Li1: at most 4096 wait; ErrArg is told ahead of ErrFull.
func TestPutFull(t *testing.T) {
	l := made(t, 1)
	tooGreat := sizedNotes(1<<15 + 1)[0]
	putMany(t, l, 1, 4095)
	stands(t, l, 4095, 0)
	refuses(t, l, tooGreat, api.ErrArg)
	puts(t, l, payload(4096))
	stands(t, l, 4096, 0)
	for range 3 {
		refuses(t, l, payload(4097), api.ErrFull)
		refuses(t, l, sizedNotes(1 << 15)[0], api.ErrFull)
		refuses(t, l, tooGreat, api.ErrArg)
		refuses(t, l, api.Note{}, api.ErrArg)
	}
	takes(t, l, telling(4, 1, 1), link.Came{})
	stands(t, l, 4096, 4)
	refuses(t, l, payload(4097), api.ErrFull)
	takes(t, l, telling(4, 1, 2), link.Came{})
	stands(t, l, 4095, 4)
	puts(t, l, payload(4097))
	refuses(t, l, payload(4098), api.ErrFull)
	// What was refused has no number: 63 wait, then 64, then 65.
	takes(t, l, telling(4, 1, 4097-62), link.Came{})
	stands(t, l, 63, 4)
	puts(t, l, payload(4098), carrying(1, 4, 4098, 1, payload(4098)))
	puts(t, l, payload(4099))
	// All are dropped, and as many have room again.
	takes(t, l, telling(5, 1, 1), link.Came{Anew: true})
	putMany(t, l, 1, 4096)
	refuses(t, l, payload(4097), api.ErrFull)
}

// Li1: the packets of payloads, byte by byte.
func TestPutBytes(t *testing.T) {
	l := made(t, 1)
	puts(t, l, api.Note{Kind: 5}, "\x00\x00\x00\x1d"+"\x5f\x5f\xf8\x04"+"\x01\x01"+"\x01\x04"+"\x01\x01"+"\x00"+"\x01\x01"+"\x01\x01"+
		"\x01\x01"+"\x01\x0d"+"\x00\x00\x00\x05"+"\x51\x7a\xf5\x5c"+"\x01\x05\x00\x00\x00"+"\x00")
	l = made(t, 1<<40)
	takes(t, l, carrying(300, 1<<40, 1, 1, payload(9)), link.Came{
		Payloads: []api.Note{payload(9)},
		Packets:  []string{sealed("\x01\x02" + "\x01\x03" + "\x06\x01\x00\x00\x00\x00\x00" + "\x02\x01\x2c" + "\x01\x02" + "\x00" + "\x00")},
	})
	putMany(t, l, 1, 63)
	puts(t, l, api.Note{Kind: 6, Texts: []string{"hi"}}, sealed("\x01\x01"+"\x01\x04"+"\x06\x01\x00\x00\x00\x00\x00"+"\x02\x01\x2c"+"\x01\x40"+"\x01\x02"+
		"\x01\x01"+"\x01\x12"+sealed("\x01\x06"+"\x00"+"\x01\x01"+"\x01\x02hi"+"\x00")+"\x00"))
	puts(t, l, payload(65))
	// One is gone, and still 64 wait behind it: the next one, too, has no packet.
	takes(t, l, telling(300, 1<<40, 2), link.Came{})
	puts(t, l, payload(66))
	// Two more are gone: 63 wait, and the next is the 64th.
	takes(t, l, telling(300, 1<<40, 4), link.Came{})
	stands(t, l, 63, 300)
	puts(t, l, api.Note{Kind: 7}, sealed("\x01\x01"+"\x01\x04"+"\x06\x01\x00\x00\x00\x00\x00"+"\x02\x01\x2c"+"\x01\x43"+"\x01\x02"+
		"\x01\x01"+"\x01\x0d"+sealed("\x01\x07\x00\x00\x00")+"\x00"))
	puts(t, l, payload(68))
}

// Li1: which payloads have packets at once, however many wait, and however many are gone.
func TestPutWindow(t *testing.T) {
	for _, gone := range []int{0, 1, 5, 63, 64, 65, 100, 1000} {
		l := made(t, 6)
		takes(t, l, telling(2, 6, 1), link.Came{})
		putMany(t, l, 1, gone)
		takes(t, l, telling(2, 6, gone+1), link.Came{})
		stands(t, l, 0, 2)
		for k := gone + 1; k <= gone+64; k++ {
			puts(t, l, payload(k), carrying(6, 2, k, 1, payload(k)))
		}
		for k := gone + 65; k <= gone+130; k++ {
			puts(t, l, payload(k))
		}
	}
}

// carryingMany are the packets of the payloads of some numbers.
func carryingMany(epoch, other, wants, from, to int) (l []string) {
	for k := from; k <= to; k++ {
		l = append(l, carrying(epoch, other, k, wants, payload(k)))
	}
	return l
}

// Li1: a tick has the packets of the first 64 that wait, as the end stands then.
func TestTick(t *testing.T) {
	for _, many := range []int{0, 1, 2, 3, 63, 64, 65, 66, 127, 128, 129, 1000, 4095, 4096} {
		l := made(t, 9)
		putMany(t, l, 1, many)
		for range 3 {
			tells(t, "Tick", l.Tick(), carryingMany(9, 0, 1, 1, min(many, 64))...)
			stands(t, l, many, 0)
		}
		// It knows the other one's epoch.
		takes(t, l, telling(4, 9, 1), link.Came{})
		tells(t, "Tick", l.Tick(), carryingMany(9, 4, 1, 1, min(many, 64))...)
		// It wants the next one.
		takes(t, l, carrying(4, 9, 1, 0, payload(0)), link.Came{Payloads: []api.Note{payload(0)}, Packets: []string{telling(9, 4, 2)}})
		tells(t, "Tick", l.Tick(), carryingMany(9, 4, 2, 1, min(many, 64))...)
		// Some are gone.
		first := 1 + many/3
		takes(t, l, telling(4, 9, first), link.Came{})
		tells(t, "Tick", l.Tick(), carryingMany(9, 4, 2, first, min(many, first+63))...)
		stands(t, l, many-many/3, 4)
		// All are gone.
		takes(t, l, telling(4, 9, many+1), link.Came{})
		tells(t, "Tick", l.Tick())
		stands(t, l, 0, 4)
		// One more.
		puts(t, l, payload(many+1), carrying(9, 4, many+1, 2, payload(many+1)))
		tells(t, "Tick", l.Tick(), carrying(9, 4, many+1, 2, payload(many+1)))
	}
}
