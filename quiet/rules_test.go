package quiet_test

import (
	"math/rand"
	"slices"
	"sync"
	"testing"

	"sinew/api"
	"sinew/quiet"
)

// notGiven is a node that New did not give: ErrArg and -1, 0, false, whatever it is asked, again and again.
func notGiven(t *testing.T, name string, n *quiet.Node) {
	t.Helper()
	for range 2 {
		for _, arg := range append([]int{0, 1, 2, 3, 64, 65, 1 << 20}, outside...) {
			for _, c := range []call{{"Take", arg}, {"Send", arg}, {"Told", 0}, {"Rest", 0}} {
				want := answer{err: api.ErrArg}
				if c.name == "Take" || c.name == "Rest" {
					want.number = -1
				}
				if a := c.of(n); a != want {
					t.Errorf("%s, %v: %v, want %v", name, c, a, want)
				}
			}
		}
	}
}

// R1: nil, and nodes that New did not give; a copy of one that it gave is none of these either.
func TestNotGiven(t *testing.T) {
	var none quiet.Node
	notGiven(t, "nil", nil)
	notGiven(t, "zero", &none)
	notGiven(t, "new", new(quiet.Node))
	refused, _ := quiet.New(0, 0, true)
	notGiven(t, "refused", refused)
	for _, s := range states() {
		n := s.make(t)
		owes, works, done := n.Owes(), n.Works(), n.Done()
		other := *n
		notGiven(t, "a copy of: "+s.name, &other)
		stands(t, n, owes, works, done)
		none = *n
		notGiven(t, "a zero one that became a copy of: "+s.name, &none)
		stands(t, n, owes, works, done)
	}
}

// R1 and R2: each call at numbers of all kinds, on nodes of all kinds: one of three errors, and zero beside it.
func TestAtAll(t *testing.T) {
	for _, s := range states() {
		for _, arg := range append([]int{0, 1, 2, 3, 4, 64, 65, 66, 1<<20 - 1, 1 << 20}, outside...) {
			for _, name := range []string{"Take", "Send", "Told", "Rest"} {
				n := s.make(t)
				owes, works, done := n.Owes(), n.Works(), n.Done()
				a := call{name, arg}.of(n)
				if !slices.Contains([]api.Errno{api.OK, api.ErrArg, api.ErrNone}, a.err) || a.err != api.OK && a.number != 0 {
					t.Errorf("%s: %s(%d): %d, %d", s.name, name, arg, a.number, a.err)
				}
				if a.err != api.OK {
					stands(t, n, owes, works, done)
				}
			}
		}
	}
}

// R2: what is refused changes nothing that a later call could tell: a node of all calls answers like one of those alone that were not refused.
func TestRefusedChangesNothing(t *testing.T) {
	r := rand.New(rand.NewSource(149))
	refused := 0
	for range 5000 {
		nodes := 1 + r.Intn(5)
		id, root := r.Intn(nodes), r.Intn(3) == 0
		all, some := made(t, id, nodes, root), made(t, id, nodes, root)
		for range 60 {
			c := chanceCall(r, nodes)
			a := c.of(all)
			if a.err != api.OK {
				refused++
			} else if other := c.of(some); a != other {
				t.Fatalf("%v: %v, without what was refused %v", c, a, other)
			}
			stands(t, some, all.Owes(), all.Works(), all.Done())
		}
	}
	if refused < 50000 {
		t.Errorf("%d were refused", refused)
	}
}

// R3, R4: Owes, Works and Done change nothing.
func TestAskedOften(t *testing.T) {
	for _, s := range states() {
		n := s.make(t)
		owes, works, done := n.Owes(), n.Works(), n.Done()
		for range 100 {
			stands(t, n, owes, works, done)
		}
	}
}

// R3: two nodes share nothing, be their numbers the same or not: scripts that are mixed are answered as each alone.
func TestShareNothing(t *testing.T) {
	r := rand.New(rand.NewSource(150))
	for range 1000 {
		nodes := 1 + r.Intn(4)
		var all []*quiet.Node
		var diaries []*diary
		for i := range 5 {
			root := i%2 == 0
			all, diaries = append(all, made(t, r.Intn(nodes), nodes, root)), append(diaries, &diary{nodes: nodes, root: root})
		}
		for range 150 {
			i, c := r.Intn(len(all)), chanceCall(r, nodes)
			if a, want := c.of(all[i]), c.by(diaries[i]); a != want {
				t.Fatalf("%v of node %d: %v, want %v", c, i, a, want)
			}
		}
		for i, n := range all {
			stands(t, n, diaries[i].owes(), diaries[i].works(), diaries[i].done())
		}
		stands(t, made(t, 0, nodes, true), 0, true, false)
		stands(t, made(t, 0, nodes, false), 0, false, false)
	}
}

// R4: the same calls have the same answers, also at the same time on other nodes, and whichever number the node has.
func TestSameAnswer(t *testing.T) {
	r := rand.New(rand.NewSource(151))
	const nodes = 8
	var scripts [][]call
	var want [][]answer
	for i := range 200 {
		var calls []call
		for range 80 {
			calls = append(calls, chanceCall(r, nodes))
		}
		scripts, want = append(scripts, calls), append(want, held(t, 0, nodes, i%2 == 0, calls))
	}
	var wait sync.WaitGroup
	for id := range nodes {
		wait.Go(func() {
			for i, calls := range scripts {
				n, e := quiet.New(id, nodes, i%2 == 0)
				if e != api.OK {
					t.Errorf("New: %d", e)
					return
				}
				for k, c := range calls {
					if a := c.of(n); a != want[i][k] {
						t.Errorf("script %d, %v: %v, want %v", i, c, a, want[i][k])
						return
					}
				}
			}
		})
	}
	wait.Wait()
}
