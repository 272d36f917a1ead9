package flow

import (
	"slices"

	"sinew/api"
	"sinew/quiet"
)

// heading is how many Nums each note has at the least, but for the beginning note: the try, from whom, to whom, and its number on that line.
const heading = 4

// line is how a part stands with another node.
type line struct {
	// sent and taken are how many notes went there and came from there: each has its number, so that none is taken twice.
	sent  int
	taken int
	// waits is whether a note went there of which the node has not told yet. As long as it does, what is to go there is gathered, and goes together.
	waits bool
}

// part is what the head's part and a worker's have in common: lines to the others, and what it owes them.
type part struct {
	// self is the part itself, if it was made: a copy would take the notes once more that the part takes.
	self  *part
	try   int
	id    int
	node  *quiet.Node
	lines []line
	// out is what the call under way sends.
	out []Out
}

// setUp lets it be the part of a node in a try, beside so many workers.
func (p *part) setUp(try, id, workers int) {
	p.self, p.try, p.id = p, try, id
	p.lines = make([]line, workers+1)
	p.anew()
}

// workers is how many there are.
func (p *part) workers() int {
	return len(p.lines) - 1
}

// anew lets it owe nothing, as at the beginning.
func (p *part) anew() {
	p.node, _ = quiet.New(p.id, len(p.lines), p.id == head)
}

// given tells whether a part is one that was made.
func (p *part) given() bool {
	return p.self == p
}

// isNext tells whether a note is one of this try, and the next one from a node to this one.
func (p *part) isNext(from int, n api.Note) bool {
	if from < 0 || from >= len(p.lines) || from == p.id || len(n.Nums) < heading || len(n.Texts) > 0 {
		return false
	}
	return slices.Equal(n.Nums[:heading], []int{p.try, from, p.id, p.lines[from].taken + 1})
}

// isTold tells whether a note that is the next one of a node tells that it is done with what went there.
func (p *part) isTold(from int, n api.Note) bool {
	return n.Kind == kindTold && len(n.Nums) == heading && len(n.Rows) == 0 && p.lines[from].waits
}

// hear takes note that a node told.
func (p *part) hear(from int) {
	p.lines[from].taken++
	p.lines[from].waits = false
	p.node.Told()
}

// wake takes note of a note that a node is to be told of.
func (p *part) wake(from int) {
	p.lines[from].taken++
	p.tell(p.node.Take(from))
}

// rest is that there is nothing to do till the next note comes.
func (p *part) rest() {
	p.tell(p.node.Rest())
}

// tell tells a node that is to be told, if there is one.
func (p *part) tell(to int, e api.Errno) {
	if e == api.OK && to >= 0 {
		p.put(to, kindTold, nil, nil)
	}
}

// send sends a note of which the node is to tell; no other one waits for that there.
func (p *part) send(to, kind int, more []int, rows [][]string) {
	p.owe(to)
	p.put(to, kind, more, rows)
}

// owe takes note that a node is to tell.
func (p *part) owe(to int) {
	p.lines[to].waits = true
	p.node.Send(1)
}

// put lets a note go, with more Nums behind its heading.
func (p *part) put(to, kind int, more []int, rows [][]string) {
	nums := append([]int{p.try, p.id, to, p.lines[to].sent + 1}, more...)
	p.let(to, api.Note{Kind: kind, Nums: nums, Rows: rows})
}

// let lets a note go.
func (p *part) let(to int, n api.Note) {
	p.lines[to].sent++
	p.out = append(p.out, Out{To: to, Note: n})
}

// sent is what the call sends.
func (p *part) sent() []Out {
	out := p.out
	p.out = nil
	return out
}
