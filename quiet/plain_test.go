package quiet_test

import (
	"fmt"
	"slices"

	"sinew/api"
	"sinew/quiet"
)

// What the chapter says, read plainly and by other means than the program's: what the tests hold it against.

// The kinds of lines of a diary.
const (
	woken = iota
	sent
	wasTold
	rested
)

// line is something that a node did: by whom it was woken, or how many messages it sent.
type line struct {
	kind, n int
}

// diary is a node in the chapter's words: what it did is written down, line by line, and all else is read out of that.
type diary struct {
	nodes int
	root  bool
	lines []line
}

// count is how many lines there are of a kind.
func (d *diary) count(kind int) (n int) {
	for _, l := range d.lines {
		if l.kind == kind {
			n++
		}
	}
	return n
}

// owes is all that was sent, without what it was told of.
func (d *diary) owes() int {
	var messages int64
	for _, l := range d.lines {
		if l.kind == sent {
			messages += int64(l.n)
		}
	}
	return int(messages - int64(d.count(wasTold)))
}

// works is whether it was woken once more than it rested; the root was so ahead of the first line.
func (d *diary) works() bool {
	beginnings := d.count(woken)
	if d.root {
		beginnings++
	}
	return beginnings > d.count(rested)
}

// done is whether a root rested.
func (d *diary) done() bool {
	return d.root && d.count(rested) > 0
}

// parent is who woke it last; the root has none.
func (d *diary) parent() int {
	for _, l := range slices.Backward(d.lines) {
		if l.kind == woken {
			return l.n
		}
	}
	return -1
}

func (d *diary) write(kind, n int) {
	d.lines = append(d.lines, line{kind, n})
}

func (d *diary) take(from int) (int, api.Errno) {
	switch {
	case from < 0 || from > d.nodes-1:
		return 0, api.ErrArg
	case d.done():
		return 0, api.ErrNone
	case d.works():
		return from, api.OK
	}
	d.write(woken, from)
	return -1, api.OK
}

func (d *diary) send(many int) api.Errno {
	switch {
	case many < 0 || many > 1048576:
		return api.ErrArg
	case !d.works() || d.owes()+many > 1073741824:
		return api.ErrNone
	}
	d.write(sent, many)
	return api.OK
}

func (d *diary) told() api.Errno {
	if d.owes() == 0 {
		return api.ErrNone
	}
	d.write(wasTold, 0)
	return api.OK
}

func (d *diary) rest() (int, api.Errno) {
	switch {
	case !d.works():
		return 0, api.ErrNone
	case d.owes() != 0:
		return -1, api.OK
	}
	d.write(rested, 0)
	if d.root {
		return -1, api.OK
	}
	return d.parent(), api.OK
}

// call is one of the four that change a node, with its number.
type call struct {
	name string
	n    int
}

func (c call) String() string {
	if c.name == "Take" || c.name == "Send" {
		return fmt.Sprintf("%s(%d)", c.name, c.n)
	}
	return c.name + "()"
}

// answer is what a call answers, and how the node stands behind it.
type answer struct {
	number      int
	err         api.Errno
	owes        int
	works, done bool
}

// of is what a node answers.
func (c call) of(n *quiet.Node) (a answer) {
	switch c.name {
	case "Take":
		a.number, a.err = n.Take(c.n)
	case "Send":
		a.err = n.Send(c.n)
	case "Told":
		a.err = n.Told()
	case "Rest":
		a.number, a.err = n.Rest()
	}
	a.owes, a.works, a.done = n.Owes(), n.Works(), n.Done()
	return a
}

// by is what the plain reading answers.
func (c call) by(d *diary) (a answer) {
	switch c.name {
	case "Take":
		a.number, a.err = d.take(c.n)
	case "Send":
		a.err = d.send(c.n)
	case "Told":
		a.err = d.told()
	case "Rest":
		a.number, a.err = d.rest()
	}
	a.owes, a.works, a.done = d.owes(), d.works(), d.done()
	return a
}
