package flow

import (
	"maps"
	"slices"
	"strings"

	"sinew/api"
	"sinew/share"
)

// gap stands between the words of a row that is one text: below all bytes of words, so that texts rise as rows do.
const gap = " "

// Head is the head's part.
type Head struct {
	part
	version int
	plan    *plan
	step    int
	// sizes are how many pairs were found of each search.
	sizes []int
	cells int
	// rows are those that came, each as one text.
	rows map[string]struct{}
	// many is whether there are too many.
	many bool
}

// NewHead is the head's part of a try, of a version: the beginning notes.
func NewHead(try, workers, version int, q api.Query) (*Head, []Out, api.Errno) {
	a := asked{try: try, version: version, query: q}
	if workers < 1 || workers > api.MaxWorkers || !a.mayBe() {
		return nil, nil, api.ErrArg
	}
	h := &Head{version: version, plan: newPlan(q), rows: map[string]struct{}{}}
	h.setUp(try, head, workers)
	h.step = stepBegin
	h.sizes = make([]int, len(h.plan.searches))
	for worker := 1; worker <= workers; worker++ {
		h.owe(worker)
		h.let(worker, a.note())
	}
	return h, h.sent(), api.OK
}

// Take takes a note of a worker: what it sends then.
func (h *Head) Take(from int, n api.Note) []Out {
	if h == nil || !h.given() || !h.takes(from, n) {
		return nil
	}
	h.rest()
	if h.node.Done() {
		h.next()
	}
	return h.sent()
}

// takes takes a note, if it is one of this try; false, if it is none.
func (h *Head) takes(from int, n api.Note) bool {
	switch {
	case !h.isNext(from, n):
		return false
	case h.isTold(from, n):
		h.hear(from)
	case h.isSize(n):
		h.wake(from)
		for i, size := range n.Nums[heading:] {
			h.sizes[i] = min(h.sizes[i]+size, mostSize)
		}
	case h.isRows(from, n):
		h.wake(from)
		for _, row := range n.Rows {
			h.keep(row)
		}
	case h.isMany(from, n):
		h.wake(from)
		h.giveUp()
	default:
		return false
	}
	return true
}

// isSize tells whether a note that is the next one of a worker tells how many pairs it found.
func (h *Head) isSize(n api.Note) bool {
	if n.Kind != kindSize || h.step != stepCount || len(n.Nums) != heading+len(h.sizes) || len(n.Rows) > 0 {
		return false
	}
	return !slices.ContainsFunc(n.Nums[heading:], func(size int) bool { return size < 0 || size > mostSize })
}

// joins tells whether a worker has a cell to join now.
func (h *Head) joins(worker int) bool {
	return h.step == stepJoin && worker <= h.cells
}

// isRows tells whether a note that is the next one of a worker has rows.
func (h *Head) isRows(from int, n api.Note) bool {
	if n.Kind != kindRow || !h.joins(from) || len(n.Nums) > heading || len(n.Rows) == 0 {
		return false
	}
	return !slices.ContainsFunc(n.Rows, func(row []string) bool { return !h.plan.hasShape(kindRow, row) })
}

// isMany tells whether a note that is the next one of a worker tells that it has too many rows.
func (h *Head) isMany(from int, n api.Note) bool {
	return n.Kind == kindMany && h.joins(from) && slices.Equal(n.Nums[heading:], []int{api.MaxRows}) && len(n.Rows) == 0
}

// keep keeps a row, once: cells may have the same one.
func (h *Head) keep(row []string) {
	if h.many {
		return
	}
	text := strings.Clone(strings.Join(row, gap))
	h.rows[text] = struct{}{}
	if len(h.rows) > api.MaxRows {
		h.giveUp()
	}
}

// giveUp is that there are too many rows. What is under way comes all the same ahead of the answer.
func (h *Head) giveUp() {
	h.many, h.rows = true, nil
}

// next begins the next step, as all is quiet.
func (h *Head) next() {
	h.step = h.plan.after(h.step)
	h.anew()
	switch h.step {
	case stepShare:
		if slices.Contains(h.sizes, 0) {
			h.step = stepEnd
			return
		}
		shares := h.shares()
		h.cells, _ = share.Cells(shares)
		h.call(h.workers(), shares)
	case stepJoin:
		h.call(h.cells, nil)
	case stepEnd:
	default:
		h.call(h.workers(), nil)
	}
}

// call tells the first so many workers that the next step begins.
func (h *Head) call(workers int, more []int) {
	for worker := 1; worker <= workers; worker++ {
		h.send(worker, kindStep, append([]int{h.step}, more...), nil)
	}
}

// shares are into how many parts the values of each variable are cut.
func (h *Head) shares() []int {
	var atoms [][]int
	for _, s := range h.plan.searches {
		atoms = append(atoms, h.plan.variables(s))
	}
	l, _ := share.Shares(h.workers(), h.plan.vars, atoms, h.sizes)
	return l
}

// Done tells whether it knows the answer.
func (h *Head) Done() (api.Reply, bool) {
	if h == nil || !h.given() || h.step != stepEnd {
		return api.Reply{}, false
	}
	if h.many {
		return api.Reply{Err: api.ErrMany, Version: h.version}, true
	}
	r := api.Reply{Version: h.version}
	for _, text := range slices.Sorted(maps.Keys(h.rows)) {
		r.Rows = append(r.Rows, strings.Split(text, gap))
	}
	return r, true
}
