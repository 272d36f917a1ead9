package link_test

import (
	"encoding/binary"
	"fmt"
	"hash/crc32"
	"math/big"
	"math/bits"
	"slices"
	"strings"

	"sinew/api"
	"sinew/link"
	"sinew/wire"
)

// What the chapters say, read plainly and by other means than the program's: what the tests hold it against.

// Notes as bytes, with numbers of 64 bits, so that some are below 0 or too great.

func numBytes(n uint64) string {
	b := new(big.Int).SetUint64(n).Bytes()
	return string(append([]byte{byte(len(b))}, b...))
}

func listBytes(l []string) string {
	var s strings.Builder
	s.WriteString(numBytes(uint64(len(l))))
	for _, t := range l {
		s.WriteString(numBytes(uint64(len(t))) + t)
	}
	return s.String()
}

// sum is the sum by the library, which goes through the bits of each byte the other way about.
func sum(s string) uint32 {
	b := []byte(s)
	for i := range b {
		b[i] = bits.Reverse8(b[i])
	}
	return bits.Reverse32(crc32.ChecksumIEEE(b))
}

// sealed is any bytes as a body, with the length and the sum that belong to them.
func sealed(body string) string {
	head := binary.BigEndian.AppendUint32(nil, uint32(len(body)))
	head = binary.BigEndian.AppendUint32(head, sum(body))
	return string(head) + body
}

// rawBytes is a note as bytes, may it be or not.
func rawBytes(kind uint64, nums []uint64, texts []string, rows [][]string) string {
	body := []string{numBytes(kind), numBytes(uint64(len(nums)))}
	for _, v := range nums {
		body = append(body, numBytes(v))
	}
	body = append(body, listBytes(texts), numBytes(uint64(len(rows))))
	for _, r := range rows {
		body = append(body, listBytes(r))
	}
	return sealed(strings.Join(body, ""))
}

func noteBytes(n api.Note) string {
	var nums []uint64
	for _, v := range n.Nums {
		nums = append(nums, uint64(v))
	}
	return rawBytes(uint64(n.Kind), nums, n.Texts, n.Rows)
}

// carrying is a packet of Kind 1.
func carrying(epoch, other, number, wants int, payload api.Note) string {
	return noteBytes(api.Note{Kind: 1, Nums: []int{epoch, other, number, wants}, Texts: []string{noteBytes(payload)}})
}

// telling is a packet of Kind 2.
func telling(epoch, other, wants int) string {
	return noteBytes(api.Note{Kind: 2, Nums: []int{epoch, other, wants}})
}

// packet is what one says: a number of 0 and no payload, if it carries none.
type packet struct {
	epoch, other, number, wants int
	payload                     []api.Note
}

// spelt is the packet that bytes are: it is written anew, and must have just these bytes.
func spelt(s string) (packet, bool) {
	l, _ := wire.All(s)
	if len(l) != 1 {
		return packet{}, false
	}
	nums := l[0].Nums
	switch {
	case len(nums) == 3 && telling(nums[0], nums[1], nums[2]) == s:
		return packet{epoch: nums[0], other: nums[1], wants: nums[2]}, true
	case len(nums) == 4 && len(l[0].Texts) == 1:
		inner, _ := wire.All(l[0].Texts[0])
		if len(inner) == 1 && carrying(nums[0], nums[1], nums[2], nums[3], inner[0]) == s {
			return packet{nums[0], nums[1], nums[2], nums[3], inner}, true
		}
	}
	return packet{}, false
}

// entry is a payload that was put: it waits till it is gone.
type entry struct {
	note api.Note
	gone bool
}

// record is an end in the chapter's words: of all that was put since numbers began nothing is struck out, and the number of each is its place there, from 1 on.
type record struct {
	epoch, other int
	put          []entry
	// came are the payloads that have come since the other end began.
	came []api.Note
}

// waiting are the numbers of all that wait.
func (r *record) waiting() (numbers []int) {
	for i, x := range r.put {
		if !x.gone {
			numbers = append(numbers, i+1)
		}
	}
	return numbers
}

func (r *record) wants() int { return len(r.came) + 1 }

func (r *record) packetOf(number int) string {
	return carrying(r.epoch, r.other, number, r.wants(), r.put[number-1].note)
}

func (r *record) tells() []string {
	return []string{telling(r.epoch, r.other, r.wants())}
}

func (r *record) putNote(n api.Note) ([]string, api.Errno) {
	if wire.Check(n) != api.OK || len(noteBytes(n)) > 32768 {
		return nil, api.ErrArg
	}
	if len(r.waiting()) == 4096 {
		return nil, api.ErrFull
	}
	r.put = append(r.put, entry{note: n})
	if len(r.waiting()) > 64 {
		return nil, api.OK
	}
	return []string{r.packetOf(len(r.put))}, api.OK
}

func (r *record) tick() (packets []string) {
	for _, number := range r.waiting() {
		if len(packets) < 64 {
			packets = append(packets, r.packetOf(number))
		}
	}
	return packets
}

func (r *record) take(s string) (c link.Came) {
	p, ok := spelt(s)
	if !ok || p.epoch == 0 || p.epoch < r.other {
		return c
	}
	if p.epoch > r.other {
		if r.other != 0 {
			c.Anew, r.put = true, nil
		}
		r.other, r.came = p.epoch, nil
	}
	if p.other != r.epoch {
		c.Packets = r.tells()
		return c
	}
	for i := range r.put {
		if i+1 < p.wants {
			r.put[i].gone = true
		}
	}
	for _, n := range p.payload {
		if p.number == r.wants() {
			c.Payloads = []api.Note{n}
			r.came = append(r.came, n)
		}
		c.Packets = r.tells()
	}
	return c
}

// call is one of the three that an end is there for, with what it is given.
type call struct {
	name   string
	note   api.Note
	packet string
}

func (c call) String() string {
	switch c.name {
	case "Put":
		return "Put(" + brief(c.note) + ")"
	case "Take":
		return "Take(" + briefPacket(c.packet) + ")"
	}
	return c.name + "()"
}

// brief is a note without long texts.
func brief(n api.Note) string {
	if s := fmt.Sprintf("kind %d, %d, %q, %q", n.Kind, n.Nums, n.Texts, n.Rows); len(s) <= 80 {
		return s
	}
	return fmt.Sprintf("kind %d, %d nums, %d texts, %d rows", n.Kind, len(n.Nums), len(n.Texts), len(n.Rows))
}

// briefPacket is what a packet says.
func briefPacket(s string) string {
	p, ok := spelt(s)
	if !ok {
		return fmt.Sprintf("%.80q", s)
	}
	return fmt.Sprintf("epoch %d, other %d, number %d, wants %d, %d payloads", p.epoch, p.other, p.number, p.wants, len(p.payload))
}

// answer is what a call answers, and how the end stands behind it.
type answer struct {
	err          api.Errno
	came         link.Came
	waits, other int
	tick         []string
}

func (a answer) String() string {
	packets := func(l []string) (s []string) {
		for _, p := range l {
			s = append(s, "{"+briefPacket(p)+"}")
		}
		return s
	}
	var payloads []string
	for _, n := range a.came.Payloads {
		payloads = append(payloads, brief(n))
	}
	return fmt.Sprintf("error %d, payloads %v, packets %v, anew %t, waits %d, other %d, of a tick %v", a.err, payloads, packets(a.came.Packets), a.came.Anew, a.waits, a.other, packets(a.tick))
}

// of is what an end answers.
func (c call) of(l *link.Link) (a answer) {
	switch c.name {
	case "Put":
		a.came.Packets, a.err = l.Put(c.note)
	case "Tick":
		a.came.Packets = l.Tick()
	case "Take":
		a.came = l.Take(c.packet)
	}
	a.waits, a.other, a.tick = l.Waits(), l.Other(), l.Tick()
	return a
}

// by is what the plain reading answers.
func (c call) by(r *record) (a answer) {
	switch c.name {
	case "Put":
		a.came.Packets, a.err = r.putNote(c.note)
	case "Tick":
		a.came.Packets = r.tick()
	case "Take":
		a.came = r.take(c.packet)
	}
	a.waits, a.other, a.tick = len(r.waiting()), r.other, r.tick()
	return a
}

// same tells whether two answers are one; nil and the empty list are the same.
func (a answer) same(b answer) bool {
	return a.err == b.err && sameCame(a.came, b.came) && a.waits == b.waits && a.other == b.other && slices.Equal(a.tick, b.tick)
}

func sameCame(a, b link.Came) bool {
	return slices.EqualFunc(a.Payloads, b.Payloads, sameNote) && slices.Equal(a.Packets, b.Packets) && a.Anew == b.Anew
}

func sameNote(a, b api.Note) bool {
	return a.Kind == b.Kind && slices.Equal(a.Nums, b.Nums) && slices.Equal(a.Texts, b.Texts) &&
		slices.EqualFunc(a.Rows, b.Rows, slices.Equal)
}
