package link

import (
	"sinew/api"
	"sinew/wire"
)

// The kinds of packets.
const (
	kindCarries = 1
	kindTells   = 2
)

// heard is what a packet says: the epoch of the end that wrote it, the one to which it wrote, and what it wants; and a payload, if it carries one.
type heard struct {
	epoch   int
	other   int
	wants   int
	carries bool
	number  int
	payload api.Note
}

// heardOf is what a packet says; false, if the bytes are none.
func heardOf(packet string) (heard, bool) {
	n, ok := onlyNote(packet)
	if !ok || len(n.Rows) != 0 {
		return heard{}, false
	}
	switch {
	case n.Kind == kindCarries && len(n.Nums) == 4 && len(n.Texts) == 1:
		payload, ok := onlyNote(n.Texts[0])
		return heard{epoch: n.Nums[0], other: n.Nums[1], wants: n.Nums[3], carries: true, number: n.Nums[2], payload: payload}, ok
	case n.Kind == kindTells && len(n.Nums) == 3 && len(n.Texts) == 0:
		return heard{epoch: n.Nums[0], other: n.Nums[1], wants: n.Nums[2]}, true
	}
	return heard{}, false
}

// onlyNote is the note that bytes are; false, if they are none, or more than it.
func onlyNote(s string) (api.Note, bool) {
	n, used, e := wire.Unpack(s)
	return n, e == api.OK && used == len(s)
}

// carry is the packet of a payload that waits.
func (l *Link) carry(number int, pack string) string {
	return packed(api.Note{Kind: kindCarries, Nums: []int{l.epoch, l.other, number, l.wants}, Texts: []string{pack}})
}

// tell is the packet that tells how the end stands, and carries nothing.
func (l *Link) tell() string {
	return packed(api.Note{Kind: kindTells, Nums: []int{l.epoch, l.other, l.wants}})
}

// packed is a packet's note as bytes.
func packed(n api.Note) string {
	// wire refuses none: its numbers are counts from 0 on and what wire itself has read, its text is far shorter than one may be.
	s, _ := wire.Pack(n)
	return s
}
