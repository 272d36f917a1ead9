package link

import "sinew/api"

// queue is the payloads that wait, as bytes, numbered one by one.
type queue struct {
	// first is the number of the first one that waits, or of the next one to come.
	first int
	packs []string
}

// emptyQueue is a queue whose numbers begin anew.
func emptyQueue() queue {
	return queue{first: 1}
}

// count is how many wait.
func (q *queue) count() int {
	return len(q.packs)
}

// put lets one wait behind all others, and is its number.
func (q *queue) put(pack string) int {
	q.packs = append(q.packs, pack)
	return q.first + len(q.packs) - 1
}

// window are the first ones, as many as may be under way.
func (q *queue) window() []string {
	many := min(len(q.packs), api.MaxWindow)
	return q.packs[:many:many]
}

// dropBelow lets all go whose numbers are below one.
func (q *queue) dropBelow(number int) {
	all := len(q.packs)
	gone := min(max(number-q.first, 0), all)
	// The bytes of the gone are not kept, though their places in the list still are.
	clear(q.packs[:gone:gone])
	// Without room behind its end the rest moves to a list of its own at the next put, and these places are given back, too.
	q.packs = q.packs[gone:all:all]
	q.first += gone
}
