package field_test

import (
	"fmt"
	"math"
	"math/big"
	"slices"

	"sinew/api"
)

// What the chapter says, read plainly and by other means than the program's: what the tests hold it against.

// keeper is what a field answers, and the plain reading of it, too.
type keeper interface {
	Send(from, to int, bytes string) (int, api.Errno)
	Arrive(id int) (api.Packet, api.Errno)
	Copy(id int) (int, api.Errno)
	Ids() []int
	Pick(n int) int
	To(node int) []int
}

// entry is a packet that was sent, or copied: it is under way till it has come.
type entry struct {
	from, to int
	bytes    string
	come     bool
}

// ledger is a field in the chapter's words: of all that was ever under way nothing is struck out, and the number of each is its place there, from 1 on.
type ledger struct {
	nodes int
	all   []entry
}

// which are the numbers of those under way that are as is asked.
func (b *ledger) which(as func(x entry) bool) (l []int) {
	for i, x := range b.all {
		if !x.come && as(x) {
			l = append(l, i+1)
		}
	}
	return l
}

func (b *ledger) Ids() []int {
	return b.which(func(entry) bool { return true })
}

func (b *ledger) To(node int) []int {
	return b.which(func(x entry) bool { return x.to == node })
}

func (b *ledger) Pick(n int) int {
	l := b.Ids()
	if len(l) == 0 {
		return -1
	}
	place := big.NewInt(int64(n))
	if n == math.MinInt {
		place = new(big.Int)
	}
	place.Mod(place.Abs(place), big.NewInt(int64(len(l))))
	return l[place.Int64()]
}

func (b *ledger) Send(from, to int, bytes string) (int, api.Errno) {
	switch {
	case min(from, to) < 0, max(from, to) >= b.nodes, len(bytes) > 1048640:
		return 0, api.ErrArg
	case len(b.Ids()) > 16383:
		return 0, api.ErrFull
	}
	b.all = append(b.all, entry{from: from, to: to, bytes: bytes})
	return len(b.all), api.OK
}

func (b *ledger) Arrive(id int) (api.Packet, api.Errno) {
	if !slices.Contains(b.Ids(), id) {
		return api.Packet{}, api.ErrNone
	}
	x := &b.all[id-1]
	x.come = true
	return api.Packet{Id: id, From: x.from, To: x.to, Bytes: x.bytes}, api.OK
}

func (b *ledger) Copy(id int) (int, api.Errno) {
	switch {
	case len(b.Ids()) > 16383:
		return 0, api.ErrFull
	case !slices.Contains(b.Ids(), id):
		return 0, api.ErrNone
	}
	b.all = append(b.all, b.all[id-1])
	return len(b.all), api.OK
}

// call is one of the three that change a field, with what it is given.
type call struct {
	name     string
	from, to int
	bytes    string
	id       int
}

func send(from, to int, bytes string) call {
	return call{name: "Send", from: from, to: to, bytes: bytes}
}

func arrive(id int) call { return call{name: "Arrive", id: id} }

func copyOf(id int) call { return call{name: "Copy", id: id} }

func (c call) String() string {
	if c.name == "Send" {
		return fmt.Sprintf("Send(%d, %d, %s)", c.from, c.to, brief(c.bytes))
	}
	return fmt.Sprintf("%s(%d)", c.name, c.id)
}

// brief is a text, if it is not long.
func brief(s string) string {
	if len(s) > 20 {
		return fmt.Sprintf("%d bytes", len(s))
	}
	return fmt.Sprintf("%q", s)
}

// answer is what a call answers.
type answer struct {
	number int
	packet api.Packet
	err    api.Errno
}

func (a answer) String() string {
	p := a.packet
	return fmt.Sprintf("number %d, packet {%d, from %d to %d, %s}, error %d", a.number, p.Id, p.From, p.To, brief(p.Bytes), a.err)
}

// of is what it answers.
func (c call) of(k keeper) (a answer) {
	switch c.name {
	case "Send":
		a.number, a.err = k.Send(c.from, c.to, c.bytes)
	case "Arrive":
		a.packet, a.err = k.Arrive(c.id)
	case "Copy":
		a.number, a.err = k.Copy(c.id)
	}
	return a
}

// standing is what can be told of a field without changing it: all numbers, those that go to some nodes, and those that stand at some places.
type standing struct {
	ids, picks []int
	to         [][]int
}

var (
	// askedNodes are nodes of small fields, and such as there are not.
	askedNodes = []int{-1, 0, 1, 2, 3}
	// askedPlaces are places of few packets, and such as only going round leads to.
	askedPlaces = []int{math.MinInt, -5, -2, -1, 0, 1, 2, 3, 100, math.MaxInt}
)

func stateOf(k keeper) (s standing) {
	s.ids = k.Ids()
	for _, node := range askedNodes {
		s.to = append(s.to, k.To(node))
	}
	for _, n := range askedPlaces {
		s.picks = append(s.picks, k.Pick(n))
	}
	return s
}

// same tells whether two are one; nil and the empty list are the same.
func (s standing) same(o standing) bool {
	return slices.Equal(s.ids, o.ids) && slices.Equal(s.picks, o.picks) && slices.EqualFunc(s.to, o.to, slices.Equal)
}

func (s standing) String() string {
	if len(s.ids) > 50 {
		return fmt.Sprintf("%d numbers from %d to %d, picks %v", len(s.ids), s.ids[0], s.ids[len(s.ids)-1], s.picks)
	}
	return fmt.Sprintf("numbers %v, picks %v, to %v", s.ids, s.picks, s.to)
}
