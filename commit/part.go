package commit

import (
	"sinew/api"
	"sinew/flow"
	"sinew/store"
)

// Part is a worker's part.
type Part struct {
	// self is the part itself, if NewPart gave it: a copy would do batches that the part does not know of.
	self  *Part
	facts *store.Store
	// number is that of the last batch of which it knows how it ended.
	number int
	// seat is which worker it is, once it has voted for a batch.
	seat
	// voted is what it voted for, as long as it does not know how that ended; else nil.
	voted *asked
}

// NewPart is a worker's part, as its journal says.
func NewPart(journal []api.Note) (*Part, api.Errno) {
	p := &Part{facts: store.New()}
	if !readAll(p, journal, map[int]func(*Part, api.Note) bool{
		kindVoted: (*Part).readVoted,
		kindOver:  (*Part).readOver,
	}) {
		return nil, api.ErrArg
	}
	p.self = p
	return p, api.OK
}

// given tells whether a part is one that NewPart gave.
func (p *Part) given() bool {
	return p != nil && p.self == p
}

// readVoted reads what it voted for.
func (p *Part) readVoted(n api.Note) bool {
	a, ok := askedOf(n)
	return ok && p.voted == nil && p.isNext(a) && p.votesFor(a)
}

// readOver reads how a batch ended.
func (p *Part) readOver(n api.Note) bool {
	number, how, ok := howOf(n)
	return ok && p.over(number, how)
}

// isNext tells whether it may be asked for something: the part of this worker of the batch behind the last one that it knows.
func (p *Part) isNext(a asked) bool {
	return a.number == p.number+1 && (p.seat == seat{} || p.seat == a.seat)
}

// votesFor tells whether it votes for what it is asked, and waits then.
func (p *Part) votesFor(a asked) bool {
	if !p.facts.Room(a.changes) {
		return false
	}
	p.seat, p.voted = a.seat, &a
	return true
}

// over lets the batch end that is the next one; false, if it is another one, or was done without this worker's vote.
func (p *Part) over(number, how int) bool {
	if number != p.number+1 || how == done && p.voted == nil {
		return false
	}
	if how == done {
		// There was room for it, and no batch in between.
		p.facts.Apply(p.facts.Version()+1, p.voted.changes)
	}
	p.number, p.voted = number, nil
	return true
}

// Take takes a note of the head: what is to be written first, and what it sends then.
func (p *Part) Take(n api.Note) (write []api.Note, out []flow.Out) {
	if !p.given() {
		return nil, nil
	}
	take := map[int]func(*Part, api.Note) ([]api.Note, []flow.Out){
		kindAsk:  (*Part).takeAsk,
		kindTell: (*Part).takeTell,
	}
	f, ok := take[n.Kind]
	if !ok {
		return nil, nil
	}
	return f(p, n)
}

// takeAsk takes what the head asks it to vote for.
func (p *Part) takeAsk(n api.Note) (write []api.Note, out []flow.Out) {
	a, ok := askedOf(n)
	if !ok || !p.isNext(a) {
		return nil, nil
	}
	// What it voted for already is written: its vote may be lost.
	if p.voted != nil {
		return nil, toHead(kindVote, a.number, inFavour)
	}
	if !p.votesFor(a) {
		return nil, toHead(kindVote, a.number, against)
	}
	return []api.Note{a.note(kindVoted)}, toHead(kindVote, a.number, inFavour)
}

// takeTell takes how a batch ended.
func (p *Part) takeTell(n api.Note) (write []api.Note, out []flow.Out) {
	number, how, ok := howOf(n)
	if !ok {
		return nil, nil
	}
	// The head may not know that it knows.
	if number == p.number {
		return nil, toHead(kindKnown, number)
	}
	if !p.over(number, how) {
		return nil, nil
	}
	return []api.Note{sealed(kindOver, nil, number, how)}, toHead(kindKnown, number)
}

// toHead is a note of numbers to the head.
func toHead(kind int, nums ...int) []flow.Out {
	return []flow.Out{{To: head, Note: sealed(kind, nil, nums...)}}
}

// Store is its facts.
func (p *Part) Store() *store.Store {
	if !p.given() {
		return nil
	}
	return p.facts
}

// Waits tells whether it voted for a batch whose end it does not know.
func (p *Part) Waits() bool {
	return p.given() && p.voted != nil
}
