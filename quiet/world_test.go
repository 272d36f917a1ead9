package quiet_test

import (
	"math/rand"
	"slices"
	"testing"

	"sinew/api"
	"sinew/quiet"
)

// note is under way between two nodes: a message, or the telling that one is done with.
type note struct {
	from, to int
	tells    bool
}

// world is nodes that send messages to one another, each of which tells what it is to tell, once, and rests when it has nothing to do. What happens next is picked.
type world struct {
	t     *testing.T
	pick  func(choices int) int
	root  int
	nodes []*quiet.Node
	under []note
	// left is how many messages may still be sent; most is how many at once.
	left, most int
	// todo is, for each node, how many messages it took and did nothing upon yet.
	todo []int
	// keeps are, for each node, those whom it is still to tell.
	keeps [][]int
	// parents are those who woke each node that is at work by a message, -1 for the others.
	parents []int
	// tired is, for each node, whether it did nothing since it rested: it rests no more till something comes.
	tired []bool
	lost  int
	steps int
}

func newWorld(t *testing.T, pick func(choices int) int, nodes, root, messages, most int) *world {
	w := &world{t: t, pick: pick, root: root, left: messages, most: most, todo: make([]int, nodes), keeps: make([][]int, nodes), parents: slices.Repeat([]int{-1}, nodes), tired: make([]bool, nodes)}
	for id := range nodes {
		w.nodes = append(w.nodes, made(t, id, nodes, id == root))
	}
	w.todo[root] = 1
	return w
}

// arrive lets a note that is under way come to its node.
func (w *world) arrive(at int) {
	n := w.under[at]
	w.under = slices.Delete(w.under, at, at+1)
	w.tired[n.to] = false
	if n.tells {
		if e := w.nodes[n.to].Told(); e != api.OK {
			w.t.Fatalf("Told: %d", e)
		}
		return
	}
	worked := w.nodes[n.to].Works()
	tell, e := w.nodes[n.to].Take(n.from)
	switch {
	case e != api.OK:
		w.t.Fatalf("Take(%d): %d", n.from, e)
	case worked && tell == n.from:
		w.keeps[n.to] = append(w.keeps[n.to], tell)
	case !worked && tell == -1:
		w.parents[n.to] = n.from
	default:
		w.t.Fatalf("Take(%d): %d, at work: %t", n.from, tell, worked)
	}
	w.todo[n.to]++
}

// do is that a node does what it is to do upon a message: it sends some, to any nodes.
func (w *world) do(id int) {
	w.todo[id]--
	w.tired[id] = false
	many := w.pick(min(w.left, w.most) + 1)
	w.left -= many
	if e := w.nodes[id].Send(many); e != api.OK {
		w.t.Fatalf("Send(%d): %d", many, e)
	}
	for range many {
		w.under = append(w.under, note{from: id, to: w.pick(len(w.nodes))})
	}
}

// tell is that a node tells the first of those whom it is still to tell.
func (w *world) tell(id int) {
	w.under = append(w.under, note{id, w.keeps[id][0], true})
	w.keeps[id] = w.keeps[id][1:]
}

// rest is that a node has nothing to do.
func (w *world) rest(id int) {
	w.tired[id] = true
	tell, e := w.nodes[id].Rest()
	if e != api.OK {
		w.t.Fatalf("Rest: %d", e)
	}
	if w.nodes[id].Works() {
		if tell != -1 {
			w.t.Fatalf("Rest: %d, and it is at work", tell)
		}
		return
	}
	if tell != w.parents[id] {
		w.t.Fatalf("Rest: %d, want %d", tell, w.parents[id])
	}
	if id != w.root {
		w.under = append(w.under, note{id, tell, true})
	}
	w.parents[id] = -1
}

// choices are what may happen next.
func (w *world) choices() (all []func()) {
	for at := range w.under {
		all = append(all, func() { w.arrive(at) })
	}
	for id, n := range w.nodes {
		if w.todo[id] > 0 {
			all = append(all, func() { w.do(id) })
		}
		if len(w.keeps[id]) > 0 {
			all = append(all, func() { w.tell(id) })
		}
		if w.todo[id] == 0 && n.Works() && !w.tired[id] {
			all = append(all, func() { w.rest(id) })
		}
	}
	return all
}

// isQuiet tells whether no node is at work or has anything to do or to tell, and nothing is under way.
func (w *world) isQuiet() bool {
	for id, n := range w.nodes {
		if n.Works() || w.todo[id] > 0 || len(w.keeps[id]) > 0 {
			return false
		}
	}
	return len(w.under) == 0
}

// owed is what a node must owe: messages of it that are under way, that a node is at work by or is still to tell of, and tellings under way to it.
func (w *world) owed(id int) (n int) {
	for _, u := range w.under {
		if !u.tells && u.from == id || u.tells && u.to == id {
			n++
		}
	}
	for other := range w.nodes {
		if w.parents[other] == id {
			n++
		}
		for _, to := range w.keeps[other] {
			if to == id {
				n++
			}
		}
	}
	return n
}

// look holds how the world stands against Qt3.
func (w *world) look() {
	if w.nodes[w.root].Done() != w.isQuiet() {
		w.t.Fatalf("done: %t, quiet: %t", w.nodes[w.root].Done(), w.isQuiet())
	}
	for id, n := range w.nodes {
		if n.Done() && id != w.root {
			w.t.Fatalf("node %d, which is not the root, is done", id)
		}
		if want := w.owed(id); w.lost == 0 && n.Owes() != want {
			w.t.Fatalf("node %d owes %d, want %d", id, n.Owes(), want)
		}
		if !n.Works() && (n.Owes() > 0 || w.todo[id] > 0) {
			w.t.Fatalf("node %d is not at work, owes %d and has %d to do", id, n.Owes(), w.todo[id])
		}
	}
}

// run lets happen what may, till nothing is left.
func (w *world) run() {
	w.look()
	for all := w.choices(); len(all) > 0; all = w.choices() {
		all[w.pick(len(all))]()
		w.steps++
		w.look()
	}
}

// Qt3: many runs with many nodes, notes taken in any order.
func TestChanceWorlds(t *testing.T) {
	r := rand.New(rand.NewSource(146))
	all := 0
	for i := range 600 {
		nodes := 1 + r.Intn(65)
		messages := r.Intn(200)
		w := newWorld(t, r.Intn, nodes, r.Intn(nodes), messages, 1+r.Intn(8))
		w.todo[w.root] += r.Intn(3)
		w.run()
		if !w.nodes[w.root].Done() {
			t.Fatalf("run %d: nothing is left, and the root is not done", i)
		}
		// A message comes, is done upon, told of, and that comes; at each of these, and at the beginning, its node may rest in vain.
		sent := messages - w.left
		if w.steps > 8*(sent+4) {
			t.Fatalf("run %d: %d steps, %d messages", i, w.steps, sent)
		}
		all += sent
	}
	if all < 30000 {
		t.Errorf("%d messages in all", all)
	}
}

// Qt3: the last note that was sent comes first, or the first one, or nodes do all that they can first.
func TestOneSidedWorlds(t *testing.T) {
	r := rand.New(rand.NewSource(147))
	first := func(int) int { return 0 }
	last := func(choices int) int { return choices - 1 }
	for _, side := range []func(int) int{first, last} {
		for i := range 600 {
			nodes := 1 + r.Intn(20)
			pick := func(choices int) int {
				if r.Intn(10) <= i%3*3 {
					return r.Intn(choices)
				}
				return side(choices)
			}
			w := newWorld(t, pick, nodes, r.Intn(nodes), r.Intn(100), 1+r.Intn(4))
			w.run()
			if !w.nodes[w.root].Done() {
				t.Fatalf("run %d: nothing is left, and the root is not done", i)
			}
		}
	}
}

// Qt3: all runs of small worlds, in all orders.
func TestAllSmallWorlds(t *testing.T) {
	for _, size := range []struct{ nodes, messages, most int }{{1, 0, 0}, {1, 1, 1}, {1, 2, 2}, {1, 3, 1}, {2, 0, 0}, {2, 1, 1}, {2, 2, 1}, {2, 2, 2}, {3, 1, 1}, {3, 2, 1}, {3, 2, 2}} {
		runs, sentAll := 0, 0
		// chosen is what was picked in this run; the next one picks the next of the last choice that had one.
		var chosen, of []int
		for more := true; more; runs++ {
			at := 0
			w := newWorld(t, func(choices int) int {
				if at == len(chosen) {
					chosen, of = append(chosen, 0), append(of, choices)
				}
				at++
				return chosen[at-1]
			}, size.nodes, size.nodes-1, size.messages, size.most)
			w.run()
			if !w.nodes[w.root].Done() {
				t.Fatalf("%v: nothing is left, and the root is not done: %v", size, chosen)
			}
			if w.left == 0 {
				sentAll++
			}
			for len(chosen) > 0 && chosen[len(chosen)-1] == of[len(of)-1]-1 {
				chosen, of = chosen[:len(chosen)-1], of[:len(of)-1]
			}
			if more = len(chosen) > 0; more {
				chosen[len(chosen)-1]++
			}
		}
		t.Logf("%v: %d runs, of which %d sent all", size, runs, sentAll)
		if sentAll == 0 {
			t.Errorf("%v: no run sent all messages", size)
		}
	}
}

// Qt3: a root that sends nothing is done as soon as it rests.
func TestRootAlone(t *testing.T) {
	for nodes := 1; nodes <= 65; nodes++ {
		for root := range nodes {
			n := made(t, root, nodes, true)
			rests(t, n, -1)
			stands(t, n, 0, false, true)
			n = made(t, root, nodes, true)
			sends(t, n, 0)
			rests(t, n, -1)
			stands(t, n, 0, false, true)
		}
	}
}

// Qt3: as long as one note does not come, the root is not done.
func TestLostNotes(t *testing.T) {
	r := rand.New(rand.NewSource(148))
	lost := 0
	for range 1000 {
		nodes := 1 + r.Intn(10)
		w := newWorld(t, r.Intn, nodes, r.Intn(nodes), 1+r.Intn(40), 3)
		for after := r.Intn(60); ; after-- {
			all := w.choices()
			if len(all) == 0 {
				break
			}
			if after <= 0 && w.lost == 0 && len(w.under) > 0 {
				at := r.Intn(len(w.under))
				w.under = slices.Delete(w.under, at, at+1)
				w.lost, lost = 1, lost+1
				continue
			}
			all[r.Intn(len(all))]()
			if w.lost == 1 && w.nodes[w.root].Done() {
				t.Fatal("a note was lost, and the root is done")
			}
		}
		if w.nodes[w.root].Done() != (w.lost == 0) {
			t.Fatalf("lost: %d, done: %t", w.lost, w.nodes[w.root].Done())
		}
	}
	if lost < 300 {
		t.Errorf("%d notes were lost", lost)
	}
}

// Qt3: a chain and a ring of all nodes, and one that sends to all, with notes in the order in which they were sent.
func TestShapes(t *testing.T) {
	const nodes = 65
	all := make([]*quiet.Node, nodes)
	anew := func() {
		for id := range all {
			all[id] = made(t, id, nodes, id == 0)
		}
	}
	// The root wakes 1, that 2, and so on; the last one sends to the root, in a ring.
	for _, ring := range []bool{false, true} {
		anew()
		for id := range nodes - 1 {
			sends(t, all[id], 1)
			takes(t, all[id+1], id, -1)
			rests(t, all[id], -1)
		}
		if ring {
			sends(t, all[nodes-1], 1)
			takes(t, all[0], nodes-1, nodes-1)
			rests(t, all[nodes-1], -1)
			isTold(t, all[nodes-1])
		}
		for id := nodes - 1; id > 0; id-- {
			stands(t, all[0], 1, true, false)
			rests(t, all[id], id-1)
			isTold(t, all[id-1])
		}
		rests(t, all[0], -1)
		stands(t, all[0], 0, false, true)
	}
	// The root sends to all, itself among them.
	anew()
	sends(t, all[0], nodes)
	takes(t, all[0], 0, 0)
	isTold(t, all[0])
	for id := 1; id < nodes; id++ {
		takes(t, all[id], 0, -1)
	}
	for id := 1; id < nodes; id++ {
		rests(t, all[0], -1)
		stands(t, all[0], nodes-id, true, false)
		rests(t, all[id], 0)
		isTold(t, all[0])
	}
	rests(t, all[0], -1)
	stands(t, all[0], 0, false, true)
}
