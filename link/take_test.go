package link_test

import (
	"slices"
	"testing"

	"sinew/api"
	"sinew/link"
)

// told is what comes of a packet that is answered, and brings nothing else.
func told(epoch, other, wants int) link.Came {
	return link.Came{Packets: []string{telling(epoch, other, wants)}}
}

// brought is what comes of a packet that brings a payload.
func brought(n api.Note, epoch, other, wants int) link.Came {
	return link.Came{Payloads: []api.Note{n}, Packets: []string{telling(epoch, other, wants)}}
}

// state is an end of epoch 3 that stands somehow, made anew at each call, and the number that it wants.
type state struct {
	name  string
	wants int
	make  func(t *testing.T) *link.Link
}

// states are ends of all kinds; those that know another epoch know 7.
func states() []state {
	alone := func(many int) func(t *testing.T) *link.Link {
		return func(t *testing.T) *link.Link {
			l := made(t, 3)
			putMany(t, l, 1, many)
			return l
		}
	}
	behind := func(many int, packets ...string) func(t *testing.T) *link.Link {
		return func(t *testing.T) *link.Link {
			l := alone(many)(t)
			for _, p := range packets {
				l.Take(p)
			}
			return l
		}
	}
	return []state{
		{"new", 1, alone(0)},
		{"alone, three wait", 1, alone(3)},
		{"alone, full", 1, alone(4096)},
		{"it knows", 1, behind(0, telling(7, 3, 1))},
		{"it knows, and was not known", 1, behind(2, telling(7, 0, 1))},
		{"it knows, three wait", 1, behind(3, telling(7, 3, 1))},
		{"it knows, three of five wait", 1, behind(5, telling(7, 3, 3))},
		{"two came", 3, behind(0, carrying(7, 3, 1, 1, payload(1)), carrying(7, 3, 2, 1, payload(2)))},
		{"two came, 70 of 80 wait", 3, behind(80, carrying(7, 3, 1, 1, payload(1)), carrying(7, 3, 2, 11, payload(2)))},
		{"it is the third that it knows", 2, behind(4, telling(5, 3, 1), telling(6, 3, 1), carrying(7, 3, 1, 1, payload(1)))},
	}
}

// takesNothing is a packet of which nothing comes, and behind which the end stands as it stood.
func takesNothing(t *testing.T, name string, l *link.Link, was answer, s string) {
	t.Helper()
	if c := l.Take(s); !sameCame(c, link.Came{}) {
		t.Fatalf("%s: Take(%s): %v, want nothing", name, briefPacket(s), answer{came: c})
	}
	if is := standing(l); !is.same(was) {
		t.Fatalf("%s: Take(%s): it stands %v, stood %v", name, briefPacket(s), is, was)
	}
}

// torn are bytes that have something of packets and are none.
func torn(whole ...string) (l []string) {
	l = []string{"", "\x00", "x", "\x00\x00\x00\x00\x00\x00\x00\x00", "\x00\x00\x00\x00\xff\xff\xff\xff"}
	for _, s := range whole {
		for end := range len(s) {
			l = append(l, s[:end], s[end+1:], s[:end]+s[end+1:])
			for _, other := range []byte{0, 1, 0x80, 0xff, s[end] ^ 1} {
				b := []byte(s)
				if b[end] != other {
					b[end] = other
					l = append(l, string(b))
				}
			}
		}
		for _, more := range append([]string{"\x00", "x", "\x00\x00\x00\x00\x00\x00\x00\x00"}, whole...) {
			l = append(l, s+more, more+s+more)
		}
		l = append(l, "\x00"+s, "x"+s)
	}
	return l
}

// unlikeKinds are notes that differ from packets by their kinds or by how much they have.
func unlikeKinds(nums []int) (l []string) {
	pack := noteBytes(payload(1))
	four, three := []int{nums[0], nums[1], nums[2], nums[3]}, []int{nums[0], nums[1], nums[3]}
	for kind := 3; kind <= 255; kind++ {
		l = append(l, noteBytes(api.Note{Kind: kind, Nums: four, Texts: []string{pack}}), noteBytes(api.Note{Kind: kind, Nums: three}))
	}
	for many := range 65 {
		others := append(slices.Clone(four), make([]int, 64)...)[:many]
		if many != 4 {
			l = append(l, noteBytes(api.Note{Kind: 1, Nums: others, Texts: []string{pack}}))
		}
		if many != 3 {
			l = append(l, noteBytes(api.Note{Kind: 2, Nums: others}))
		}
		l = append(l, noteBytes(api.Note{Kind: 1, Nums: others}), noteBytes(api.Note{Kind: 2, Nums: others, Texts: []string{pack}}))
	}
	for _, rows := range [][][]string{{{}}, {{""}}, {{pack}}, {{}, {}}} {
		l = append(l, noteBytes(api.Note{Kind: 1, Nums: four, Texts: []string{pack}, Rows: rows}), noteBytes(api.Note{Kind: 1, Nums: four, Rows: rows}), noteBytes(api.Note{Kind: 2, Nums: three, Rows: rows}))
	}
	for _, texts := range [][]string{{""}, {"x"}, {pack}, {pack, pack}, {"", ""}} {
		l = append(l, noteBytes(api.Note{Kind: 2, Nums: three, Texts: texts}))
	}
	return l
}

// unlikeTexts are packets of Kind 1 whose texts are not just one note's Pack.
func unlikeTexts(nums []int) (l []string) {
	pack := noteBytes(payload(1))
	for _, texts := range [][]string{nil, {pack, pack}, {pack, ""}, {"", pack}, {"", ""}, {pack, pack, pack}} {
		l = append(l, noteBytes(api.Note{Kind: 1, Nums: nums, Texts: texts}))
	}
	inner := torn(pack, noteBytes(api.Note{Kind: 1, Nums: nums, Texts: []string{"hi"}, Rows: [][]string{{"a"}}}))
	inner = append(inner, rawBytes(0, nil, nil, nil), rawBytes(256, nil, nil, nil), rawBytes(5, []uint64{1 << 62}, nil, nil), rawBytes(5, []uint64{1 << 63}, nil, nil), rawBytes(5, make([]uint64, 65), nil, nil), rawBytes(5, nil, make([]string, 4097), nil), sealed(""), sealed("\x01\x05\x00\x00"), sealed("\x01\x05\x00\x00\x00\x00"))
	for _, text := range inner {
		l = append(l, noteBytes(api.Note{Kind: 1, Nums: nums, Texts: []string{text}}))
	}
	return l
}

// unlikeNums are packets with a number that no note may have, at each place: beyond the greatest one, or below 0; and notes of kinds that may not be.
func unlikeNums(nums []int) (l []string) {
	pack := noteBytes(payload(1))
	four := []uint64{uint64(nums[0]), uint64(nums[1]), uint64(nums[2]), uint64(nums[3])}
	three := []uint64{four[0], four[1], four[3]}
	for _, kind := range []uint64{0, 256, 257, 258, 1<<64 - 1} {
		l = append(l, rawBytes(kind, four, []string{pack}, nil), rawBytes(kind, three, nil, nil))
	}
	for _, wrong := range []uint64{1 << 62, 1<<62 + 1, 1<<63 - 1, 1 << 63, 1<<64 - 2, 1<<64 - 1} {
		for at := range four {
			other := slices.Clone(four)
			other[at] = wrong
			l = append(l, rawBytes(1, other, []string{pack}, nil))
		}
		for at := range three {
			other := slices.Clone(three)
			other[at] = wrong
			l = append(l, rawBytes(2, other, nil, nil))
		}
	}
	return l
}

// Li2: of bytes that are no packet nothing comes, though they would bring a payload, tell of all that waits and of another epoch.
func TestTakeNoPacket(t *testing.T) {
	for _, s := range states() {
		l := s.make(t)
		was := standing(l)
		for _, epoch := range []int{7, 9} {
			nums := []int{epoch, 3, s.wants, 5000}
			wrong := slices.Concat(torn(carrying(epoch, 3, s.wants, 5000, payload(1)), telling(epoch, 3, 5000)), unlikeKinds(nums), unlikeTexts(nums), unlikeNums(nums))
			for _, p := range wrong {
				takesNothing(t, s.name, l, was, p)
			}
		}
		// What they are like is a packet.
		takes(t, l, carrying(max(l.Other(), 1), 3, s.wants, 5000, payload(1)), brought(payload(1), 3, max(l.Other(), 1), s.wants+1))
		stands(t, l, 0, max(l.Other(), 1))
	}
}

// Li2: an epoch of 0, or below the one that is known: nothing.
func TestTakeElder(t *testing.T) {
	for _, s := range states() {
		l := s.make(t)
		was := standing(l)
		elder := []int{0}
		if l.Other() == 7 {
			elder = []int{0, 1, 2, 3, 4, 5, 6}
		}
		for _, epoch := range elder {
			for _, other := range []int{0, 2, 3, 4} {
				for _, number := range []int{0, 1, s.wants, s.wants + 1} {
					for _, wants := range []int{0, 1, 2, 5000} {
						takesNothing(t, s.name, l, was, carrying(epoch, other, number, wants, payload(1)))
						takesNothing(t, s.name, l, was, telling(epoch, other, wants))
					}
				}
			}
		}
	}
}

// Li2: the first epoch that comes to be known is not told as anew: what waits stays, with its numbers.
func TestTakeFirstEpoch(t *testing.T) {
	for _, other := range []int{1, 2, 3, 300, 1 << 40, 1<<40 + 1, 1<<62 - 1} {
		for _, many := range []int{0, 1, 3, 64, 100} {
			end := func() *link.Link {
				l := made(t, 3)
				putMany(t, l, 1, many)
				return l
			}
			behind := func(l *link.Link, first, wants int) {
				t.Helper()
				stands(t, l, many-first+1, other)
				tells(t, "Tick", l.Tick(), carryingMany(3, other, wants, first, min(many, first+63))...)
				l.Put(payload(many + 1))
				l.Take(telling(other, 3, many+1))
				tells(t, "Tick", l.Tick(), carrying(3, other, many+1, wants, payload(many+1)))
			}
			l := end()
			takes(t, l, telling(other, 3, 1), link.Came{})
			behind(l, 1, 1)
			l = end()
			takes(t, l, telling(other, 0, 2), told(3, other, 1))
			behind(l, 1, 1)
			l = end()
			takes(t, l, carrying(other, 0, 1, 2, payload(9)), told(3, other, 1))
			behind(l, 1, 1)
			l = end()
			takes(t, l, carrying(other, 3, 1, 1, payload(9)), brought(payload(9), 3, other, 2))
			behind(l, 1, 2)
			l = end()
			takes(t, l, carrying(other, 3, 2, 2, payload(9)), told(3, other, 1))
			behind(l, min(many, 1)+1, 1)
		}
	}
}

// Li2: another epoch behind one that was known is told as anew: what waits is dropped, numbers begin anew, and it wants 1.
func TestTakeAnew(t *testing.T) {
	for _, s := range states() {
		if s.make(t).Other() == 0 {
			continue
		}
		for _, other := range []int{8, 9, 300, 1 << 40, 1<<40 + 1, 1<<62 - 1} {
			for _, p := range []struct {
				packet string
				want   link.Came
				wants  int
			}{
				{telling(other, 3, 1), link.Came{}, 1},
				{telling(other, 3, 0), link.Came{}, 1},
				{telling(other, 3, 5000), link.Came{}, 1},
				{telling(other, 0, 1), told(3, other, 1), 1},
				{telling(other, 4, 5000), told(3, other, 1), 1},
				{carrying(other, 3, 1, 1, payload(9)), brought(payload(9), 3, other, 2), 2},
				{carrying(other, 3, 1, 5000, payload(9)), brought(payload(9), 3, other, 2), 2},
				{carrying(other, 3, 2, 1, payload(9)), told(3, other, 1), 1},
				{carrying(other, 3, 3, 1, payload(9)), told(3, other, 1), 1},
				{carrying(other, 3, 0, 1, payload(9)), told(3, other, 1), 1},
				{carrying(other, 0, 1, 1, payload(9)), told(3, other, 1), 1},
				{carrying(other, 2, 1, 1, payload(9)), told(3, other, 1), 1},
			} {
				l := s.make(t)
				p.want.Anew = true
				takes(t, l, p.packet, p.want)
				stands(t, l, 0, other)
				tells(t, "Tick", l.Tick())
				// It is told once.
				takes(t, l, telling(other, 3, 0), link.Came{})
				takes(t, l, telling(other, 0, 0), told(3, other, p.wants))
				puts(t, l, payload(1), carrying(3, other, 1, p.wants, payload(1)))
				puts(t, l, payload(2), carrying(3, other, 2, p.wants, payload(2)))
				tells(t, "Tick", l.Tick(), carryingMany(3, other, p.wants, 1, 2)...)
				// The elder one is known no more.
				takes(t, l, carrying(7, 3, 1, 3, payload(9)), link.Came{})
				stands(t, l, 2, other)
			}
		}
	}
}

// Li2: what was written to another epoch is answered by one packet, and that is all.
func TestTakeToAnother(t *testing.T) {
	for _, s := range states() {
		l := s.make(t)
		if l.Other() == 0 {
			continue
		}
		was := standing(l)
		for _, other := range []int{0, 1, 2, 4, 5, 7, 300, 1 << 40, 1<<62 - 1} {
			for _, wants := range []int{0, 1, 2, 3, 4, 81, 5000} {
				takes(t, l, telling(7, other, wants), told(3, 7, s.wants))
				for _, number := range []int{0, 1, 2, 3, 4} {
					takes(t, l, carrying(7, other, number, wants, payload(1)), told(3, 7, s.wants))
				}
			}
			if is := standing(l); !is.same(was) {
				t.Fatalf("%s: it stands %v, stood %v", s.name, is, was)
			}
		}
	}
}

// Li2: what waits with numbers below the one that a packet wants is gone, and no other.
func TestTakeGone(t *testing.T) {
	// How many are gone ahead of it, wait, and which number is wanted.
	for _, gone := range []int{0, 1, 10, 100} {
		for _, many := range []int{0, 1, 2, 10, 64, 65, 100} {
			last := gone + many
			for _, wants := range []int{0, 1, gone - 1, gone, gone + 1, gone + 2, gone + many/2, last - 1, last, last + 1, last + 2, last + 64, last + 5000, 1 << 40, 1<<62 - 1} {
				if wants < 0 {
					continue
				}
				first := min(max(wants, gone+1), last+1)
				for _, carries := range []bool{false, true} {
					l := made(t, 3)
					putMany(t, l, 1, gone)
					takes(t, l, telling(7, 3, gone+1), link.Came{})
					putMany(t, l, gone+1, last)
					stands(t, l, many, 7)
					if carries {
						takes(t, l, carrying(7, 3, 5, wants, payload(1)), told(3, 7, 1))
					} else {
						takes(t, l, telling(7, 3, wants), link.Came{})
					}
					stands(t, l, last-first+1, 7)
					tells(t, "Tick", l.Tick(), carryingMany(3, 7, 1, first, min(last, first+63))...)
					// Whatever was wanted, the next one has the next number.
					takes(t, l, telling(7, 3, last+1), link.Came{})
					puts(t, l, payload(last+1), carrying(3, 7, last+1, 1, payload(last+1)))
					stands(t, l, 1, 7)
				}
			}
		}
	}
}

// Li2: some are gone at a time, and then no more of them.
func TestTakeGoneByAndBy(t *testing.T) {
	l := made(t, 3)
	takes(t, l, telling(7, 3, 1), link.Came{})
	last, first := 0, 1
	for round := range 300 {
		for range 1 + round%7 {
			last++
			putMany(t, l, last, last)
		}
		for _, wants := range []int{first - 1, first, min(last+1, first+round%8), first} {
			takes(t, l, telling(7, 3, wants), link.Came{})
			first = max(first, wants)
			stands(t, l, last-first+1, 7)
			tells(t, "Tick", l.Tick(), carryingMany(3, 7, 1, first, min(last, first+63))...)
		}
	}
}

// Li2: a payload with the number that is wanted has come; any other not; each is answered.
func TestTakePayload(t *testing.T) {
	l := made(t, 3)
	for k := 1; k <= 300; k++ {
		for _, number := range []int{0, 1, k - 1, k + 1, k + 2, k + 64, k + 256, 1 << 40, 1<<62 - 1} {
			if number != k {
				takes(t, l, carrying(7, 3, number, 1, payload(number)), told(3, 7, k))
			}
		}
		n := api.Note{Kind: 1 + k%255, Nums: []int{k}, Texts: []string{"ann", ""}, Rows: [][]string{{}, {"b"}}}
		takes(t, l, carrying(7, 3, k, 1, n), brought(n, 3, 7, k+1))
		takes(t, l, carrying(7, 3, k, 1, n), told(3, 7, k+1))
		// What carries none is not answered.
		takes(t, l, telling(7, 3, k), link.Came{})
		stands(t, l, 0, 7)
	}
}

// Li2: a payload comes, and what it tells to be wanted is gone, by one packet; it is answered as the end stands then.
func TestTakeBoth(t *testing.T) {
	l := made(t, 3)
	putMany(t, l, 1, 5)
	takes(t, l, carrying(7, 3, 1, 3, payload(1)), brought(payload(1), 3, 7, 2))
	stands(t, l, 3, 7)
	tells(t, "Tick", l.Tick(), carryingMany(3, 7, 2, 3, 5)...)
	takes(t, l, carrying(7, 3, 1, 5, payload(1)), told(3, 7, 2))
	stands(t, l, 1, 7)
	takes(t, l, carrying(7, 3, 3, 6, payload(1)), told(3, 7, 2))
	stands(t, l, 0, 7)
	takes(t, l, carrying(7, 3, 2, 1, payload(2)), brought(payload(2), 3, 7, 3))
	puts(t, l, payload(6), carrying(3, 7, 6, 3, payload(6)))
}

// Li2: a text that is just one note's Pack will do, also one that could not be put.
func TestTakeGreatPayload(t *testing.T) {
	l := made(t, 3)
	for i, n := range slices.Concat(sizedNotes(1<<15), sizedNotes(1<<15+1), sizedNotes(1<<16)) {
		takes(t, l, carrying(7, 3, i+1, 1, n), brought(n, 3, 7, i+2))
	}
}

// The chapter's example.
func TestExample(t *testing.T) {
	a, b, n := made(t, 1), made(t, 1), api.Note{Kind: 5, Texts: []string{"a"}}
	puts(t, a, n, carrying(1, 0, 1, 1, n))
	takes(t, b, carrying(1, 0, 1, 1, n), told(1, 1, 1))
	stands(t, b, 0, 1)
	takes(t, a, telling(1, 1, 1), link.Came{})
	stands(t, a, 1, 1)
	tells(t, "Tick", a.Tick(), carrying(1, 1, 1, 1, n))
	takes(t, b, carrying(1, 1, 1, 1, n), brought(n, 1, 1, 2))
	takes(t, a, telling(1, 1, 2), link.Came{})
	stands(t, a, 0, 1)
	tells(t, "Tick", a.Tick())
}
