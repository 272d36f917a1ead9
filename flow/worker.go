package flow

import (
	"slices"
	"strconv"

	"sinew/api"
	"sinew/share"
	"sinew/store"
)

// Worker is a worker's part of one try to answer a query.
type Worker struct {
	part
	// begin is the beginning note, as long as it has not come.
	begin api.Note
	plan  *plan
	step  int
	words *lexicon
	// facts are those of the version, as long as they may be told to others.
	facts []api.Triple
	hunt  hunt
	// pairs are, of each search, those that came to the worker's cell.
	pairs [][][2]int
	// boxes are, of each node, the letters that wait to go there.
	boxes [][]letter
}

// NewWorker is the part of a worker of a number, of so many, as a beginning note says, over its facts.
func NewWorker(id, workers int, begin api.Note, s *store.Store) (*Worker, api.Errno) {
	if workers > api.MaxWorkers || id < 1 || id > workers {
		return nil, api.ErrArg
	}
	a, ok := readAsked(begin)
	if !ok {
		return nil, api.ErrArg
	}
	// Of what is no store layer 7 tells ErrArg, and of a version that there is not ErrPast, as it is asked for here.
	facts, e := s.Facts(a.version)
	if e != api.OK {
		return nil, e
	}
	return newWorker(id, workers, a, facts), api.OK
}

// newWorker is the part of a worker that has these facts.
func newWorker(id, workers int, a asked, facts []api.Triple) *Worker {
	w := &Worker{begin: a.note(), plan: newPlan(a.query), words: newLexicon(workers)}
	w.setUp(a.try, id, workers)
	w.pairs = make([][][2]int, len(w.plan.searches))
	w.boxes = make([][]letter, workers+1)
	w.hunt = newHunt(w.plan, w.words)
	w.read(facts)
	if w.plan.spreads() {
		w.facts = facts
	}
	return w
}

// Take takes a note of a node: what it sends then.
func (w *Worker) Take(from int, n api.Note) []Out {
	if w == nil || !w.given() || !w.takes(from, n) {
		return nil
	}
	w.goOn()
	w.mail()
	w.rest()
	return w.sent()
}

// takes takes a note, if it is one of this try; false, if it is none.
func (w *Worker) takes(from int, n api.Note) bool {
	switch {
	case w.isBegin(from, n):
		w.wake(from)
		w.begin, w.step = api.Note{}, stepBegin
	case !w.isNext(from, n):
		return false
	case w.isTold(from, n):
		w.hear(from)
	case w.isStep(from, n):
		w.wake(from)
		w.enter(n.Nums[heading], n.Nums[heading+1:])
	case w.isData(from, n):
		w.wake(from)
		for _, row := range n.Rows {
			w.receive(w.letterOf(n.Kind, row))
		}
	default:
		return false
	}
	return true
}

// isBegin tells whether a note is the beginning note, for the first time.
func (w *Worker) isBegin(from int, n api.Note) bool {
	return from == head && w.step < stepBegin && sameNote(n, w.begin)
}

// isStep tells whether a note that is the next one of a node lets the next step begin.
func (w *Worker) isStep(from int, n api.Note) bool {
	if from != head || n.Kind != kindStep || len(n.Rows) > 0 || len(n.Nums) == heading {
		return false
	}
	step, more := n.Nums[heading], n.Nums[heading+1:]
	if w.step < stepBegin || step != w.plan.after(w.step) {
		return false
	}
	if step == stepShare {
		cells, e := share.Cells(more)
		return e == api.OK && len(more) == w.plan.vars && cells <= w.workers()
	}
	return len(more) == 0
}

// isData tells whether a note that is the next one of a node has rows for this worker.
func (w *Worker) isData(from int, n api.Note) bool {
	if from == head || len(n.Nums) > heading || len(n.Rows) == 0 {
		return false
	}
	// A worker that was told of the next step may send ahead of this one's being told.
	step := stepOf(n.Kind)
	if step < stepBegin || step != w.step && step != w.plan.after(w.step) {
		return false
	}
	return !slices.ContainsFunc(n.Rows, func(row []string) bool { return !w.isFor(n.Kind, row) })
}

// isFor tells whether a row is one of a kind that this worker is sent.
func (w *Worker) isFor(kind int, row []string) bool {
	if !w.plan.hasShape(kind, row) {
		return false
	}
	switch kind {
	case kindVertex:
		return w.words.home(row[0]) == w.id
	case kindEdge:
		return w.words.home(row[1]) == w.id
	case kindWay:
		search, _ := strconv.Atoi(row[0])
		at, _ := strconv.Atoi(row[1])
		return w.plan.searches[search].path.leadsTo(places(at)) && w.words.home(row[3]) == w.id
	}
	return true
}

// receive takes a letter.
func (w *Worker) receive(l letter) {
	switch l.kind {
	case kindVertex:
		w.hunt.know(l.row[0])
	case kindEdge:
		w.hunt.add(side{l.row[1], true}, edge{l.row[0], l.row[2]})
	case kindWay:
		w.come(l.row[0], trip{l.row[2], l.row[3]}, places(l.row[1]))
	case kindPair:
		w.pairs[l.row[0]] = append(w.pairs[l.row[0]], [2]int{l.row[1], l.row[2]})
	}
}

// enter begins a step.
func (w *Worker) enter(step int, more []int) {
	w.step = step
	switch step {
	case stepSpread:
		w.spread()
	case stepSearch:
		w.search()
	case stepCount:
		w.count()
	case stepShare:
		w.share(more)
	case stepJoin:
		w.join()
	}
}
