package commit_test

import (
	"maps"
	"slices"
	"strings"

	"sinew/api"
)

// What a note must mean.
const (
	asks = iota
	tells
	votes
	knows
)

// How a batch ends.
const (
	notYet = iota
	wasDone
	wasRefused
	wasLost
)

// says is what a note means: of the so manieth batch that began, and, of a vote, whether it is for it.
type says struct {
	kind   int
	number int
	yes    bool
}

// facts are triples, each once.
type facts map[api.Triple]bool

// with are the facts behind changes.
func (f facts) with(l []api.Change) facts {
	g := maps.Clone(f)
	for _, c := range l {
		if c.Gone {
			delete(g, c.T)
		} else {
			g[c.T] = true
		}
	}
	return g
}

// sorted are they, by their bytes: a blank is below all that words have.
func (f facts) sorted() []api.Triple {
	text := func(t api.Triple) string { return t.S + " " + t.P + " " + t.O }
	return slices.SortedFunc(maps.Keys(f), func(a, b api.Triple) int { return strings.Compare(text(a), text(b)) })
}

// attempt is a batch that began.
type attempt struct {
	id   api.Id
	l    []api.Change
	ends int
}

// plainHead is a head in the chapter's own words: all batches that began, and whom it has heard of about the last one: the votes, as long as it did not end, and then who knows how.
type plainHead struct {
	workers  int
	attempts []attempt
	heard    map[int]bool
	opposed  bool
}

func (h *plainHead) last() *attempt {
	return &h.attempts[len(h.attempts)-1]
}

func (h *plainHead) busy() bool {
	return len(h.attempts) > 0 && len(h.heard) < h.workers
}

// order are the batches that were done.
func (h *plainHead) order() (l []attempt) {
	for _, a := range h.attempts {
		if a.ends == wasDone {
			l = append(l, a)
		}
	}
	return l
}

// ended is how a batch ended that was asked for by this id.
func (h *plainHead) ended(id api.Id) (int, api.Errno) {
	if at := slices.IndexFunc(h.order(), func(a attempt) bool { return a.id == id }); at >= 0 {
		return at + 1, api.OK
	}
	if slices.ContainsFunc(h.attempts, func(a attempt) bool { return a.id == id && a.ends == wasRefused }) {
		return 0, api.ErrAbort
	}
	return 0, api.ErrNone
}

// again are the workers that have not voted, or do not know how the last batch ended, and what they are sent.
func (h *plainHead) again() (to []int, what says) {
	if !h.busy() {
		return nil, says{}
	}
	for i := range h.workers {
		if !h.heard[i+1] {
			to = append(to, i+1)
		}
	}
	kind := tells
	if h.last().ends == notYet {
		kind = asks
	}
	return to, says{kind: kind, number: len(h.attempts)}
}

func (h *plainHead) begin(id api.Id, l []api.Change) {
	h.attempts = append(h.attempts, attempt{id: id, l: l})
	h.heard, h.opposed = map[int]bool{}, false
}

// take tells whether a batch ended by a worker's note.
func (h *plainHead) take(from int, what says) bool {
	if from < 1 || from > h.workers || len(h.attempts) == 0 || what.number != len(h.attempts) || h.heard[from] {
		return false
	}
	open := h.last().ends == notYet
	if open != (what.kind == votes) {
		return false
	}
	h.heard[from] = true
	if !open {
		return false
	}
	h.opposed = h.opposed || !what.yes
	if len(h.heard) < h.workers {
		return false
	}
	h.last().ends = wasDone
	if h.opposed {
		h.last().ends = wasRefused
	}
	h.heard = map[int]bool{}
	return true
}

// anew is what begins anew from the journal, of which the last note may not have survived: the end of the last batch, or, if there is none, its beginning.
func (h *plainHead) anew(survived bool) {
	h.heard = map[int]bool{}
	if len(h.attempts) == 0 {
		return
	}
	ended := h.last().ends == wasDone || h.last().ends == wasRefused
	if !survived && !ended {
		h.attempts = h.attempts[:len(h.attempts)-1]
	} else if !survived || !ended {
		h.last().ends = wasLost
	}
}

// plainPart is a worker's part in the chapter's own words: how many batches it knows the end of, those that were done, and whether it voted for the one behind them.
type plainPart struct {
	worker  int
	workers int
	knows   int
	waits   bool
	// versions are the facts behind each batch that was done.
	versions []facts
	// was is the part ahead of its last note in the journal.
	was *plainPart
}

func (p *plainPart) facts() facts {
	return p.versions[len(p.versions)-1]
}

// keep keeps how it is, as a note is written.
func (p *plainPart) keep() {
	was := *p
	was.was, was.versions = nil, slices.Clone(p.versions)
	p.was = &was
}

// take tells whether it writes a note, and what it says to the head: nothing, if its kind is that of no worker's note.
func (p *plainPart) take(what says, a attempt) (writes bool, answer says) {
	part := living(a.l, p.worker, p.workers)
	switch {
	case what.kind == asks && what.number == p.knows+1:
		yes := p.waits || len(p.facts().with(part)) <= api.MaxShard
		writes = yes && !p.waits
		if writes {
			p.keep()
			p.waits = true
		}
		return writes, says{votes, what.number, yes}
	case what.kind == tells && what.number == p.knows+1:
		p.keep()
		p.knows, p.waits = what.number, false
		if a.ends == wasDone {
			p.versions = append(p.versions, p.facts().with(part))
		}
		return true, says{kind: knows, number: what.number}
	case what.kind == tells && what.number == p.knows:
		return false, says{kind: knows, number: what.number}
	}
	return false, says{}
}

// anew is what begins anew from the journal, of which the last note may not have survived.
func (p *plainPart) anew(survived bool) {
	if !survived {
		*p = *p.was
	}
}
