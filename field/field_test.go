package field_test

import (
	"math"
	"slices"
	"strings"
	"testing"

	"sinew/api"
	"sinew/field"
)

const most = 1 << 14

// outside are numbers of no node, and of no packet.
var outside = []int{math.MinInt, math.MinInt + 1, math.MinInt32, -1 << 16, -66, -65, -64, -2, -1, 1 << 31, 1 << 32, math.MaxInt - 1, math.MaxInt}

// made is a field of so many nodes that may be.
func made(t *testing.T, nodes int) *field.Field {
	t.Helper()
	f, e := field.New(nodes)
	if f == nil || e != api.OK {
		t.Fatalf("New(%d): %v, %d", nodes, f, e)
	}
	return f
}

// answers is what must be answered to a call.
func answers(t *testing.T, f *field.Field, c call, want answer) {
	t.Helper()
	if a := c.of(f); a != want {
		t.Fatalf("%v: %v, want %v", c, a, want)
	}
}

// gives is a call that must give a number.
func gives(t *testing.T, f *field.Field, c call, number int) {
	t.Helper()
	answers(t, f, c, answer{number: number})
}

// arrives is a packet that must arrive as it is.
func arrives(t *testing.T, f *field.Field, p api.Packet) {
	t.Helper()
	answers(t, f, arrive(p.Id), answer{packet: p})
}

// refuses is a call that must be refused, with nothing beside the error, and behind which the field stands as it stood.
func refuses(t *testing.T, f *field.Field, c call, want api.Errno) {
	t.Helper()
	was := stateOf(f)
	answers(t, f, c, answer{err: want})
	if is := stateOf(f); !is.same(was) {
		t.Fatalf("%v: it stands %v, stood %v", c, is, was)
	}
}

// numbers is that just these must be under way.
func numbers(t *testing.T, f *field.Field, want ...int) {
	t.Helper()
	if l := f.Ids(); !slices.Equal(l, want) {
		t.Fatalf("Ids: %d numbers, %.200v, want %d, %.200v", len(l), l, len(want), want)
	}
}

// upTo are the numbers from one to another.
func upTo(from, to int) (l []int) {
	for n := from; n <= to; n++ {
		l = append(l, n)
	}
	return l
}

// sendMany sends so many packets from node 0 to node 0.
func sendMany(t *testing.T, f *field.Field, many int) {
	t.Helper()
	for range many {
		if _, e := f.Send(0, 0, "x"); e != api.OK {
			t.Fatalf("Send: %d", e)
		}
	}
}

// Fd1: 1 to 65 nodes; nothing is given beside an error.
func TestNew(t *testing.T) {
	for nodes := 1; nodes <= 65; nodes++ {
		f := made(t, nodes)
		numbers(t, f)
		for _, n := range []int{math.MinInt, -1, 0, 1, math.MaxInt} {
			if p := f.Pick(n); p != -1 {
				t.Errorf("Pick(%d) of a new field: %d, want -1", n, p)
			}
		}
		gives(t, f, send(nodes-1, 0, "a"), 1)
		gives(t, f, send(0, nodes-1, "b"), 2)
		refuses(t, f, send(nodes, 0, "c"), api.ErrArg)
		refuses(t, f, send(0, nodes, "c"), api.ErrArg)
		arrives(t, f, api.Packet{Id: 1, From: nodes - 1, Bytes: "a"})
		arrives(t, f, api.Packet{Id: 2, To: nodes - 1, Bytes: "b"})
	}
	for _, nodes := range append([]int{0, 66, 67, 128, 1 << 14}, outside...) {
		if f, e := field.New(nodes); f != nil || e != api.ErrArg {
			t.Errorf("New(%d): %v, %d, want none, ErrArg", nodes, f, e)
		}
	}
}

// Fd1: from and to are nodes, each by itself.
func TestSendNodes(t *testing.T) {
	for _, nodes := range []int{1, 2, 3, 64, 65} {
		f, sent := made(t, nodes), 0
		for _, from := range []int{0, nodes / 2, nodes - 1} {
			for _, to := range []int{0, nodes / 2, nodes - 1} {
				sent++
				gives(t, f, send(from, to, "x"), sent)
				for _, wrong := range append([]int{nodes, nodes + 1, 65, 66}, outside...) {
					refuses(t, f, send(from, wrong, "x"), api.ErrArg)
					refuses(t, f, send(wrong, to, "x"), api.ErrArg)
					refuses(t, f, send(wrong, wrong, ""), api.ErrArg)
				}
			}
		}
		numbers(t, f, upTo(1, sent)...)
	}
}

// Fd1: bytes of all values, none, and as many as may be.
func TestSendBytes(t *testing.T) {
	var all strings.Builder
	for b := range 256 {
		all.WriteByte(byte(b))
	}
	great := strings.Repeat(all.String(), (1<<20+64)/256+1)
	f, sent := made(t, 2), 0
	for _, size := range []int{0, 1, 2, 256, 1<<16 + 1, 1<<20 - 1, 1 << 20, 1<<20 + 1, 1<<20 + 63, 1<<20 + 64} {
		sent++
		gives(t, f, send(1, 0, great[:size]), sent)
		gives(t, f, copyOf(sent), sent+1)
		arrives(t, f, api.Packet{Id: sent, From: 1, Bytes: great[:size]})
		sent++
		arrives(t, f, api.Packet{Id: sent, From: 1, Bytes: great[:size]})
	}
	for _, size := range []int{1<<20 + 65, 1<<20 + 66, 1<<20 + 128} {
		refuses(t, f, send(1, 0, great[:size]), api.ErrArg)
	}
	refuses(t, f, send(0, 0, strings.Repeat("x", 1<<21)), api.ErrArg)
	refuses(t, f, send(0, 0, strings.Repeat("x", 1<<22+5)), api.ErrArg)
	gives(t, f, send(0, 0, "\x00\xff"), sent+1)
	numbers(t, f, sent+1)
}

// full is a field of three nodes with as many packets as may be, the first ones sent, the others copies; its numbers are 1 to 2^14.
func full(t *testing.T, sent int) *field.Field {
	t.Helper()
	f := made(t, 3)
	sendMany(t, f, sent)
	for k := sent + 1; k <= most; k++ {
		gives(t, f, copyOf(k-sent), k)
	}
	return f
}

// Fd1: at most 2^14 are under way, sent or copies; ErrArg is told ahead of ErrFull, and ErrFull ahead of ErrNone.
func TestFull(t *testing.T) {
	great := strings.Repeat("x", 1<<20+65)
	for _, sent := range []int{1, 100, most / 2, most - 1, most} {
		f := full(t, sent)
		for range 2 {
			refuses(t, f, send(0, 1, "a"), api.ErrFull)
			refuses(t, f, send(2, 2, great[1:]), api.ErrFull)
			refuses(t, f, send(2, 2, great), api.ErrArg)
			refuses(t, f, send(0, 3, "a"), api.ErrArg)
			refuses(t, f, send(-1, 0, "a"), api.ErrArg)
			refuses(t, f, copyOf(1), api.ErrFull)
			refuses(t, f, copyOf(most), api.ErrFull)
			for _, none := range append([]int{0, most + 1}, outside...) {
				refuses(t, f, copyOf(none), api.ErrFull)
				refuses(t, f, arrive(none), api.ErrNone)
			}
		}
		numbers(t, f, upTo(1, most)...)
		arrives(t, f, api.Packet{Id: 7, Bytes: "x"})
		refuses(t, f, copyOf(7), api.ErrNone)
		refuses(t, f, copyOf(most+1), api.ErrNone)
		// What was refused has no number.
		gives(t, f, copyOf(8), most+1)
		refuses(t, f, send(0, 1, "a"), api.ErrFull)
		refuses(t, f, copyOf(7), api.ErrFull)
		arrives(t, f, api.Packet{Id: most + 1, Bytes: "x"})
		gives(t, f, send(0, 1, "a"), most+2)
		refuses(t, f, copyOf(8), api.ErrFull)
		refuses(t, f, send(0, 1, "a"), api.ErrFull)
	}
}

// Fd1: as many as may be are those under way, not all that ever were.
func TestFullByAndBy(t *testing.T) {
	f := made(t, 1)
	sendMany(t, f, most-1)
	for k := range 3 * most {
		gives(t, f, send(0, 0, "y"), most+k)
		if k%1000 == 0 {
			refuses(t, f, send(0, 0, "y"), api.ErrFull)
		}
		if _, e := f.Arrive(1 + k); e != api.OK {
			t.Fatalf("Arrive(%d): %d", 1+k, e)
		}
	}
	numbers(t, f, upTo(3*most+1, 4*most-1)...)
	for k := 3*most + 1; k < 4*most; k++ {
		arrives(t, f, api.Packet{Id: k, Bytes: "y"})
	}
	numbers(t, f)
	sendMany(t, f, most)
	refuses(t, f, send(0, 0, "y"), api.ErrFull)
	numbers(t, f, upTo(4*most, 5*most-1)...)
}

// Fd1, Fd2: the next number is 1 more than the last one, whatever arrived, was copied or was refused in between.
func TestNextNumber(t *testing.T) {
	f := made(t, 2)
	gives(t, f, send(0, 1, "a"), 1)
	gives(t, f, send(0, 1, "a"), 2)
	arrives(t, f, api.Packet{Id: 2, To: 1, Bytes: "a"})
	gives(t, f, send(1, 0, "b"), 3)
	arrives(t, f, api.Packet{Id: 1, To: 1, Bytes: "a"})
	gives(t, f, copyOf(3), 4)
	gives(t, f, copyOf(3), 5)
	arrives(t, f, api.Packet{Id: 5, From: 1, Bytes: "b"})
	arrives(t, f, api.Packet{Id: 4, From: 1, Bytes: "b"})
	arrives(t, f, api.Packet{Id: 3, From: 1, Bytes: "b"})
	numbers(t, f)
	refuses(t, f, send(2, 0, "c"), api.ErrArg)
	refuses(t, f, copyOf(3), api.ErrNone)
	refuses(t, f, copyOf(6), api.ErrNone)
	gives(t, f, send(1, 1, "c"), 6)
	gives(t, f, copyOf(6), 7)
	gives(t, f, send(0, 0, ""), 8)
	numbers(t, f, 6, 7, 8)
}

// Fd1: what arrives, and that it is under way no more; what never was, is not, or is no more.
func TestArrive(t *testing.T) {
	f := made(t, 4)
	for _, none := range append([]int{0, 1, 2}, outside...) {
		refuses(t, f, arrive(none), api.ErrNone)
	}
	gives(t, f, send(3, 1, "one"), 1)
	gives(t, f, send(0, 0, ""), 2)
	gives(t, f, send(1, 3, "three"), 3)
	gives(t, f, send(2, 2, "one"), 4)
	for _, none := range append([]int{0, 5, 6}, outside...) {
		refuses(t, f, arrive(none), api.ErrNone)
	}
	arrives(t, f, api.Packet{Id: 3, From: 1, To: 3, Bytes: "three"})
	numbers(t, f, 1, 2, 4)
	refuses(t, f, arrive(3), api.ErrNone)
	refuses(t, f, copyOf(3), api.ErrNone)
	arrives(t, f, api.Packet{Id: 1, From: 3, To: 1, Bytes: "one"})
	arrives(t, f, api.Packet{Id: 4, From: 2, To: 2, Bytes: "one"})
	arrives(t, f, api.Packet{Id: 2})
	for _, none := range append(upTo(-1, 6), outside...) {
		refuses(t, f, arrive(none), api.ErrNone)
	}
	numbers(t, f)
}

// Fd1: what a copy is, whether what it is of has arrived or not; copies of what never was, is not, or is no more.
func TestCopy(t *testing.T) {
	f := made(t, 3)
	for _, none := range append([]int{0, 1, 2}, outside...) {
		refuses(t, f, copyOf(none), api.ErrNone)
	}
	gives(t, f, send(2, 1, "one"), 1)
	gives(t, f, send(1, 2, "two"), 2)
	for _, none := range append([]int{0, 3, 4}, outside...) {
		refuses(t, f, copyOf(none), api.ErrNone)
	}
	gives(t, f, copyOf(1), 3)
	gives(t, f, copyOf(2), 4)
	gives(t, f, copyOf(1), 5)
	numbers(t, f, 1, 2, 3, 4, 5)
	arrives(t, f, api.Packet{Id: 1, From: 2, To: 1, Bytes: "one"})
	refuses(t, f, copyOf(1), api.ErrNone)
	// A copy of a copy, of what is no more.
	gives(t, f, copyOf(3), 6)
	arrives(t, f, api.Packet{Id: 3, From: 2, To: 1, Bytes: "one"})
	numbers(t, f, 2, 4, 5, 6)
	arrives(t, f, api.Packet{Id: 6, From: 2, To: 1, Bytes: "one"})
	arrives(t, f, api.Packet{Id: 4, From: 1, To: 2, Bytes: "two"})
	arrives(t, f, api.Packet{Id: 2, From: 1, To: 2, Bytes: "two"})
	arrives(t, f, api.Packet{Id: 5, From: 2, To: 1, Bytes: "one"})
	for _, none := range append(upTo(-1, 8), outside...) {
		refuses(t, f, copyOf(none), api.ErrNone)
	}
	numbers(t, f)
}

// Fd1: all numbers, rising, behind each arrival, whichever of many arrives next.
func TestIds(t *testing.T) {
	const many = 1000
	for _, step := range []int{1, 7, 333, many / 2, many - 1} {
		f := made(t, 1)
		gives(t, f, send(0, 0, "x"), 1)
		for k := 2; k <= many; k++ {
			numbers(t, f, upTo(1, k-1)...)
			if k%3 == 0 {
				gives(t, f, copyOf(k-1), k)
			} else {
				gives(t, f, send(0, 0, "x"), k)
			}
		}
		left := upTo(1, many)
		for at := 0; len(left) > 0; at += step {
			i := at % len(left)
			arrives(t, f, api.Packet{Id: left[i], Bytes: "x"})
			left = append(left[:i], left[i+1:]...)
			numbers(t, f, left...)
		}
	}
}

// Fd1: the number at a place, round and round, there and back.
func TestPick(t *testing.T) {
	f := made(t, 1)
	// With all that arrived in between, 3, 5 and 8 are under way.
	sendMany(t, f, 8)
	for _, id := range []int{1, 2, 4, 6, 7} {
		arrives(t, f, api.Packet{Id: id, Bytes: "x"})
	}
	// 2^63 - 1 is 1 more than what 3 divides, 2^62 - 1 is divided by it.
	for n, want := range map[int]int{
		0: 3, 1: 5, 2: 8, 3: 3, 4: 5, 5: 8, 6: 3, 100: 5, 1 << 62: 5, 1<<62 - 1: 3, math.MaxInt: 5, math.MaxInt - 1: 3, math.MaxInt - 2: 8,
		-1: 5, -2: 8, -3: 3, -4: 5, -5: 8, -100: 5, -1 << 62: 5, math.MinInt + 1: 5, math.MinInt + 2: 3, math.MinInt: 3,
	} {
		if got := f.Pick(n); got != want {
			t.Errorf("Pick(%d): %d, want %d", n, got, want)
		}
	}
	numbers(t, f, 3, 5, 8)
	for _, id := range []int{3, 8, 5} {
		arrives(t, f, api.Packet{Id: id, Bytes: "x"})
	}
	for _, n := range append([]int{0, 1, 2, 3}, outside...) {
		if got := f.Pick(n); got != -1 {
			t.Errorf("Pick(%d) of none: %d, want -1", n, got)
		}
	}
	gives(t, f, send(0, 0, ""), 9)
	for _, n := range append([]int{0, 1, 2, 3}, outside...) {
		if got := f.Pick(n); got != 9 {
			t.Errorf("Pick(%d) of 9 alone: %d", n, got)
		}
	}
}

// Fd1: each place of many, and of as many as may be.
func TestPickOfMany(t *testing.T) {
	for _, many := range []int{1, 2, 10, 63, most} {
		f := made(t, 3)
		sendMany(t, f, many)
		for n := range many {
			for _, place := range []int{n, -n, n + many, -n - many, n + 5*many} {
				if got := f.Pick(place); got != n+1 {
					t.Fatalf("Pick(%d) of %d: %d, want %d", place, many, got, n+1)
				}
			}
		}
	}
}

// goTo is that just these must go to a node.
func goTo(t *testing.T, f *field.Field, node int, want ...int) {
	t.Helper()
	if l := f.To(node); !slices.Equal(l, want) {
		t.Fatalf("To(%d): %.200v, want %.200v", node, l, want)
	}
}

// Fd1: those that go to each node, rising; none to others, and to no node.
func TestTo(t *testing.T) {
	f := made(t, 5)
	for _, to := range []int{4, 0, 3, 0, 0, 4, 3} {
		f.Send(2, to, "x")
	}
	gives(t, f, copyOf(1), 8)
	gives(t, f, copyOf(2), 9)
	gives(t, f, copyOf(8), 10)
	gives(t, f, send(0, 1, "x"), 11)
	goTo(t, f, 0, 2, 4, 5, 9)
	goTo(t, f, 1, 11)
	// Nothing goes to 2, though nearly all come from there.
	goTo(t, f, 2)
	goTo(t, f, 3, 3, 7)
	goTo(t, f, 4, 1, 6, 8, 10)
	for _, node := range append([]int{5, 6, 64, 65, 66}, outside...) {
		goTo(t, f, node)
	}
	arrives(t, f, api.Packet{Id: 4, From: 2, Bytes: "x"})
	arrives(t, f, api.Packet{Id: 1, From: 2, To: 4, Bytes: "x"})
	goTo(t, f, 0, 2, 5, 9)
	goTo(t, f, 4, 6, 8, 10)
	arrives(t, f, api.Packet{Id: 11, To: 1, Bytes: "x"})
	goTo(t, f, 1)
	numbers(t, f, 2, 3, 5, 6, 7, 8, 9, 10)
}

// Fd1: of 65 nodes and as many packets as may be, those that go to each.
func TestToOfMany(t *testing.T) {
	f := made(t, 65)
	want := make([][]int, 65)
	for k := 1; k <= most; k++ {
		to := k * k % 65
		gives(t, f, send(k%65, to, ""), k)
		want[to] = append(want[to], k)
	}
	for node, l := range want {
		goTo(t, f, node, l...)
	}
	for _, node := range append([]int{65, 66}, outside...) {
		goTo(t, f, node)
	}
}

// Example 1 of the chapter.
func TestExample(t *testing.T) {
	f := made(t, 2)
	gives(t, f, send(0, 1, "a"), 1)
	gives(t, f, copyOf(1), 2)
	arrives(t, f, api.Packet{Id: 1, To: 1, Bytes: "a"})
	numbers(t, f, 2)
}
