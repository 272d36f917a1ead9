package commit

import (
	"slices"

	"sinew/api"
	"sinew/check"
	"sinew/flow"
)

// Head is the one that decides about batches, one behind the other.
type Head struct {
	// self is the head itself, if NewHead gave it: a copy would decide for itself.
	self    *Head
	workers int
	// order are the ids of the batches that were done.
	order []api.Id
	// ends are the versions of all that ended: 0 of those that were refused.
	ends map[api.Id]int
	batch
}

// batch is the last one that began.
type batch struct {
	number int
	id     api.Id
	how    int
	// opposed tells whether a worker voted against it.
	opposed bool
	// parts are what workers are asked, the first one's first, as long as it is open.
	parts [][]api.Change
	// silent are the workers that have not voted, or, if it is not open, do not know how it ended.
	silent map[int]struct{}
}

// NewHead is the head of so many workers, as its journal says.
func NewHead(workers int, journal []api.Note) (*Head, api.Errno) {
	if workers < 1 || workers > api.MaxWorkers {
		return nil, api.ErrArg
	}
	h := &Head{workers: workers, ends: map[api.Id]int{}}
	if !readAll(h, journal, map[int]func(*Head, api.Note) bool{
		kindBegan: (*Head).readBegan,
		kindEnded: (*Head).readEnded,
	}) {
		return nil, api.ErrArg
	}
	if h.how == open {
		h.how = lost
	}
	if h.number > 0 {
		h.silent = everyone(workers)
	}
	h.self = h
	return h, api.OK
}

// everyone is all workers.
func everyone(workers int) map[int]struct{} {
	m := map[int]struct{}{}
	for i := range workers {
		m[i+1] = struct{}{}
	}
	return m
}

// given tells whether a head is one that NewHead gave.
func (h *Head) given() bool {
	return h != nil && h.self == h
}

// readBegan reads that a batch began: if the one ahead of it did not end, that one was lost.
func (h *Head) readBegan(n api.Note) bool {
	nums, ok := numsOf(n, 6)
	if !ok || nums[0] != h.number+1 || nums[1] != h.workers {
		return false
	}
	id := idOf(nums[2:])
	h.batch = batch{number: nums[0], id: id, how: open}
	return slices.Equal(nums[2:], idNums(id))
}

// readEnded reads how the last batch ended.
func (h *Head) readEnded(n api.Note) bool {
	number, how, ok := howOf(n)
	if !ok || h.how != open || number != h.number || how == lost {
		return false
	}
	h.end(how)
	return true
}

// end lets the last batch end.
func (h *Head) end(how int) {
	h.how, h.parts = how, nil
	// What ended under this id stays so; but what was refused once may be done later on.
	version := h.ends[h.id]
	if how == done {
		h.order = append(h.order, h.id)
		if version == 0 {
			version = len(h.order)
		}
	}
	h.ends[h.id] = version
}

// Begin begins a batch: what is to be written (and made sure) first, and what it sends then.
func (h *Head) Begin(id api.Id, l []api.Change) (write []api.Note, out []flow.Out, e api.Errno) {
	if !h.given() || len(l) == 0 || !isBatch(l) {
		return nil, nil, api.ErrArg
	}
	if h.Busy() {
		return nil, nil, api.ErrBusy
	}
	h.batch = batch{number: h.number + 1, id: id, how: open, parts: partsOf(l, h.workers), silent: everyone(h.workers)}
	nums := append([]int{h.number, h.workers}, idNums(id)...)
	return []api.Note{sealed(kindBegan, nil, nums...)}, h.Again(), api.OK
}

// partsOf are the changes of which the subjects live with each worker, in their order.
func partsOf(l []api.Change, workers int) [][]api.Change {
	parts := make([][]api.Change, workers)
	for _, c := range l {
		// There is one: the subject is a word, and there are so many workers.
		home, _ := check.Home(c.T.S, workers)
		parts[home] = append(parts[home], api.Change{Gone: c.Gone, T: cloned(c.T)})
	}
	return parts
}

// Take takes a note of a worker: what is to be written first, and what it sends then.
func (h *Head) Take(from int, n api.Note) (write []api.Note, out []flow.Out) {
	if !h.given() {
		return nil, nil
	}
	take := map[int]func(*Head, int, api.Note) ([]api.Note, []flow.Out){
		kindVote:  (*Head).takeVote,
		kindKnown: (*Head).takeKnown,
	}
	f, ok := take[n.Kind]
	// Whoever is not waited for is no worker, or says what it has said.
	if _, waits := h.silent[from]; !ok || !waits {
		return nil, nil
	}
	return f(h, from, n)
}

// takeVote takes a vote; the last one decides.
func (h *Head) takeVote(from int, n api.Note) (write []api.Note, out []flow.Out) {
	nums, ok := numsOf(n, 2)
	if !ok || h.how != open || nums[0] != h.number || nums[1] != inFavour && nums[1] != against {
		return nil, nil
	}
	delete(h.silent, from)
	if nums[1] == against {
		h.opposed = true
	}
	if len(h.silent) > 0 {
		return nil, nil
	}
	how := done
	if h.opposed {
		how = refused
	}
	h.end(how)
	h.silent = everyone(h.workers)
	return []api.Note{sealed(kindEnded, nil, h.number, how)}, h.Again()
}

// takeKnown takes that a worker has written how the batch ended.
func (h *Head) takeKnown(from int, n api.Note) (write []api.Note, out []flow.Out) {
	nums, ok := numsOf(n, 1)
	if ok && h.how != open && nums[0] == h.number {
		delete(h.silent, from)
	}
	return nil, nil
}

// Again is all that is to be sent again, if it may be lost.
func (h *Head) Again() []flow.Out {
	if !h.given() {
		return nil
	}
	var out []flow.Out
	for i := range h.workers {
		if _, ok := h.silent[i+1]; ok {
			out = append(out, flow.Out{To: i + 1, Note: h.noteTo(i + 1)})
		}
	}
	return out
}

// noteTo asks a worker for its vote, or tells it how the batch ended.
func (h *Head) noteTo(worker int) api.Note {
	if h.how != open {
		return sealed(kindTell, nil, h.number, h.how)
	}
	return asked{h.number, seat{worker, h.workers}, h.parts[worker-1]}.note(kindAsk)
}

// Busy tells whether a batch is under way: some worker does not know its end.
func (h *Head) Busy() bool {
	return h.given() && len(h.silent) > 0
}

// Version is how many batches were done.
func (h *Head) Version() int {
	if !h.given() {
		return 0
	}
	return len(h.order)
}

// Ended is how a batch ended: OK and its version, ErrAbort, or ErrNone: it did not.
func (h *Head) Ended(id api.Id) (int, api.Errno) {
	if !h.given() {
		return 0, api.ErrArg
	}
	version, ok := h.ends[id]
	if !ok {
		return 0, api.ErrNone
	}
	if version == 0 {
		return 0, api.ErrAbort
	}
	return version, api.OK
}

// Order are the ids of all batches that were done, in their order.
func (h *Head) Order() []api.Id {
	if !h.given() {
		return nil
	}
	return slices.Clone(h.order)
}
