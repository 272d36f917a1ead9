package quiet_test

import (
	"math"
	"testing"

	"sinew/api"
	"sinew/quiet"
)

// made is a node that may be.
func made(t *testing.T, id, nodes int, root bool) *quiet.Node {
	t.Helper()
	n, e := quiet.New(id, nodes, root)
	if n == nil || e != api.OK {
		t.Fatalf("New(%d, %d, %t): %v, %d", id, nodes, root, n, e)
	}
	return n
}

// stands is how a node must stand.
func stands(t *testing.T, n *quiet.Node, owes int, works, done bool) {
	t.Helper()
	if n.Owes() != owes || n.Works() != works || n.Done() != done {
		t.Fatalf("Owes, Works, Done: %d, %t, %t, want %d, %t, %t", n.Owes(), n.Works(), n.Done(), owes, works, done)
	}
}

// answers is what a call must answer.
func answers(t *testing.T, n *quiet.Node, name string, arg, number int, e api.Errno) {
	t.Helper()
	c := call{name, arg}
	if a := c.of(n); a.number != number || a.err != e {
		t.Fatalf("%v: %d, %d, want %d, %d", c, a.number, a.err, number, e)
	}
}

func takes(t *testing.T, n *quiet.Node, from, tell int) {
	t.Helper()
	answers(t, n, "Take", from, tell, api.OK)
}

func sends(t *testing.T, n *quiet.Node, many int) {
	t.Helper()
	answers(t, n, "Send", many, 0, api.OK)
}

func isTold(t *testing.T, n *quiet.Node) {
	t.Helper()
	answers(t, n, "Told", 0, 0, api.OK)
}

func rests(t *testing.T, n *quiet.Node, tell int) {
	t.Helper()
	answers(t, n, "Rest", 0, tell, api.OK)
}

// refuses is a call that must be refused, with zero beside the error, and behind which the node stands as it stood.
func refuses(t *testing.T, n *quiet.Node, name string, arg int, e api.Errno) {
	t.Helper()
	owes, works, done := n.Owes(), n.Works(), n.Done()
	answers(t, n, name, arg, 0, e)
	stands(t, n, owes, works, done)
}

// outside are numbers that are too great or too small, whatever is asked for.
var outside = []int{math.MinInt, math.MinInt32, -1 << 32, -1<<20 - 1, -1 << 20, -66, -65, -2, -1, 1<<20 + 1, 1<<20 + 2, 1 << 21, 1 << 30, 1<<30 + 1, math.MaxInt32, 1 << 32, 1<<32 + 1, math.MaxInt - 1, math.MaxInt}

// state is a node of three that stands somehow, made anew at each call.
type state struct {
	name string
	make func(t *testing.T) *quiet.Node
}

// states are nodes of all kinds: the number 1, of 3.
func states() []state {
	root := func(t *testing.T) *quiet.Node { return made(t, 1, 3, true) }
	other := func(t *testing.T) *quiet.Node { return made(t, 1, 3, false) }
	behind := func(first func(t *testing.T) *quiet.Node, calls ...call) func(t *testing.T) *quiet.Node {
		return func(t *testing.T) *quiet.Node {
			n := first(t)
			for _, c := range calls {
				if a := c.of(n); a.err != api.OK {
					t.Fatalf("%v: %d", c, a.err)
				}
			}
			return n
		}
	}
	full := make([]call, 1024)
	for i := range full {
		full[i] = call{"Send", 1 << 20}
	}
	take, rest, told := call{"Take", 2}, call{"Rest", 0}, call{"Told", 0}
	return []state{
		{"root", root},
		{"root that owes", behind(root, call{"Send", 2}, told, call{"Take", 0})},
		{"root that owes all it may", behind(root, full...)},
		{"root that owes nothing more", behind(root, call{"Send", 1}, rest, told)},
		{"done root", behind(root, rest)},
		{"root done behind messages", behind(root, call{"Send", 1}, call{"Take", 0}, told, rest)},
		{"other", other},
		{"woken other", behind(other, take)},
		{"woken other that owes", behind(other, take, call{"Send", 3}, call{"Take", 0}, rest)},
		{"woken other that owes all it may", behind(behind(other, take), full...)},
		{"rested other", behind(other, take, rest)},
		{"other that rested behind messages", behind(other, take, call{"Send", 1}, told, rest)},
		{"other woken again", behind(other, take, rest, call{"Take", 0})},
	}
}

// Qt1: 1 to 65 nodes, of a number of 0 to nodes less 1; nothing is given beside an error.
func TestNew(t *testing.T) {
	for nodes := -3; nodes <= 70; nodes++ {
		for id := -3; id <= 72; id++ {
			for _, root := range []bool{false, true} {
				if nodes >= 1 && nodes <= 65 && id >= 0 && id <= nodes-1 {
					stands(t, made(t, id, nodes, root), 0, root, false)
				} else if n, e := quiet.New(id, nodes, root); n != nil || e != api.ErrArg {
					t.Errorf("New(%d, %d, %t): %v, %d, want none and ErrArg", id, nodes, root, n, e)
				}
			}
		}
	}
	for _, wrong := range outside {
		for _, args := range [][2]int{{0, wrong}, {wrong, 65}, {wrong, 1}, {wrong, wrong}, {-1, wrong}, {wrong - 1, wrong}} {
			if n, e := quiet.New(args[0], args[1], true); n != nil || e != api.ErrArg {
				t.Errorf("New(%d, %d, true): %v, %d, want none and ErrArg", args[0], args[1], n, e)
			}
		}
	}
}

// Qt1: from is 0 to nodes less 1, however the node stands.
func TestTakeFrom(t *testing.T) {
	for _, s := range states() {
		for _, from := range append([]int{3, 4, 64, 65, 66}, outside...) {
			// Of a done root too, ErrArg is the one that the chapter names first.
			refuses(t, s.make(t), "Take", from, api.ErrArg)
		}
	}
	for nodes := 1; nodes <= 65; nodes++ {
		for from := range nodes {
			takes(t, made(t, nodes-1, nodes, false), from, -1)
			takes(t, made(t, 0, nodes, true), from, from)
		}
		for _, from := range []int{-1, nodes, nodes + 1} {
			refuses(t, made(t, nodes-1, nodes, false), "Take", from, api.ErrArg)
			refuses(t, made(t, 0, nodes, true), "Take", from, api.ErrArg)
		}
	}
}

// Qt1: a message wakes a node that is not at work, and nobody is to be told; whoever wakes it is its parent.
func TestTakeWakes(t *testing.T) {
	for parent := range 4 {
		n := made(t, 2, 4, false)
		stands(t, n, 0, false, false)
		takes(t, n, parent, -1)
		stands(t, n, 0, true, false)
		rests(t, n, parent)
		stands(t, n, 0, false, false)
	}
}

// Qt1: whoever sends a message to a node that is at work is to be told; the parent stays.
func TestTakeAtWork(t *testing.T) {
	for parent := range 4 {
		n := made(t, 2, 4, false)
		takes(t, n, parent, -1)
		for range 3 {
			for from := range 4 {
				takes(t, n, from, from)
				stands(t, n, 0, true, false)
			}
		}
		sends(t, n, 1)
		takes(t, n, 3, 3)
		rests(t, n, -1)
		takes(t, n, 1, 1)
		isTold(t, n)
		takes(t, n, 0, 0)
		stands(t, n, 0, true, false)
		rests(t, n, parent)
	}
}

// Qt1: the root is at work at first; once it is done, it takes no message.
func TestTakeRoot(t *testing.T) {
	n := made(t, 1, 3, true)
	for from := range 3 {
		takes(t, n, from, from)
		stands(t, n, 0, true, false)
	}
	sends(t, n, 1)
	takes(t, n, 0, 0)
	isTold(t, n)
	takes(t, n, 2, 2)
	rests(t, n, -1)
	for from := range 3 {
		refuses(t, n, "Take", from, api.ErrNone)
	}
	stands(t, n, 0, false, true)
	// Numbers that may not be, beside being done.
	refuses(t, n, "Take", -1, api.ErrArg)
	refuses(t, n, "Take", 3, api.ErrArg)
	refuses(t, n, "Take", 2, api.ErrNone)
}

// Qt1: many is 0 to 2^20, however the node stands.
func TestSendMany(t *testing.T) {
	for _, s := range states() {
		for _, many := range outside {
			// Of a node that is not at work, or that owes all it may, ErrArg is the one that the chapter names first.
			refuses(t, s.make(t), "Send", many, api.ErrArg)
		}
	}
	for _, many := range []int{0, 1, 2, 65, 1<<20 - 1, 1 << 20} {
		n := made(t, 0, 1, true)
		sends(t, n, many)
		stands(t, n, many, true, false)
		sends(t, n, many)
		stands(t, n, 2*many, true, false)
		sends(t, n, 3)
		stands(t, n, 2*many+3, true, false)
	}
}

// Qt1: who is not at work sends nothing, not even no message.
func TestSendNotAtWork(t *testing.T) {
	for _, s := range states() {
		if s.make(t).Works() {
			continue
		}
		for _, many := range []int{0, 1, 2, 1<<20 - 1, 1 << 20} {
			n := s.make(t)
			refuses(t, n, "Send", many, api.ErrNone)
			stands(t, n, 0, false, n.Done())
		}
	}
}

// Qt1: at most 2^30 are owed, by as many calls as that takes.
func TestSendMost(t *testing.T) {
	for _, s := range states() {
		if n := s.make(t); n.Works() {
			for n.Owes() <= 1<<30-1<<20 {
				owed := n.Owes()
				sends(t, n, 1<<20)
				stands(t, n, owed+1<<20, true, false)
			}
			sends(t, n, 1<<30-n.Owes())
			stands(t, n, 1<<30, true, false)
			for _, many := range []int{1, 2, 1<<20 - 1, 1 << 20} {
				refuses(t, n, "Send", many, api.ErrNone)
			}
			for _, many := range []int{-1, 1<<20 + 1, math.MinInt, math.MaxInt} {
				refuses(t, n, "Send", many, api.ErrArg)
			}
			sends(t, n, 0)
			rests(t, n, -1)
			takes(t, n, 0, 0)
			stands(t, n, 1<<30, true, false)
			isTold(t, n)
			stands(t, n, 1<<30-1, true, false)
			refuses(t, n, "Send", 2, api.ErrNone)
			refuses(t, n, "Send", 1<<20, api.ErrNone)
			sends(t, n, 1)
			refuses(t, n, "Send", 1, api.ErrNone)
			stands(t, n, 1<<30, true, false)
		}
	}
}

// Qt1: the most that may be owed, by steps that do not hit it.
func TestSendUneven(t *testing.T) {
	for _, step := range []int{1<<20 - 1, 1<<19 + 1, 700001, 65537} {
		n, owed := made(t, 64, 65, true), 0
		for owed+step <= 1<<30 {
			sends(t, n, step)
			owed += step
		}
		stands(t, n, owed, true, false)
		left := 1<<30 - owed
		refuses(t, n, "Send", step, api.ErrNone)
		refuses(t, n, "Send", left+1, api.ErrNone)
		sends(t, n, left)
		stands(t, n, 1<<30, true, false)
		refuses(t, n, "Send", 1, api.ErrNone)
	}
}

// Qt1: Told at nothing owed, however the node stands, and at something.
func TestTold(t *testing.T) {
	for _, s := range states() {
		n := s.make(t)
		works, done := n.Works(), n.Done()
		if owed := n.Owes(); owed > 0 {
			isTold(t, n)
			stands(t, n, owed-1, works, done)
		} else {
			refuses(t, n, "Told", 0, api.ErrNone)
			refuses(t, n, "Told", 0, api.ErrNone)
		}
	}
	for _, many := range []int{1, 2, 100, 1 << 20} {
		n := made(t, 1, 2, false)
		refuses(t, n, "Told", 0, api.ErrNone)
		takes(t, n, 0, -1)
		sends(t, n, many)
		for left := many - 1; left >= 0; left-- {
			if e := n.Told(); e != api.OK || n.Owes() != left || !n.Works() {
				t.Fatalf("Told: %d, owes %d, want %d", e, n.Owes(), left)
			}
		}
		refuses(t, n, "Told", 0, api.ErrNone)
		stands(t, n, 0, true, false)
		rests(t, n, 0)
		refuses(t, n, "Told", 0, api.ErrNone)
		stands(t, n, 0, false, false)
	}
}

// Qt1: Rest of a node that is not at work, and of one that owes something.
func TestRestStays(t *testing.T) {
	for _, s := range states() {
		n := s.make(t)
		switch owed := n.Owes(); {
		case !n.Works():
			refuses(t, n, "Rest", 0, api.ErrNone)
			refuses(t, n, "Rest", 0, api.ErrNone)
		case owed > 0:
			for range 3 {
				rests(t, n, -1)
				stands(t, n, owed, true, false)
			}
		}
	}
	n := made(t, 0, 2, true)
	sends(t, n, 3)
	for left := 3; left > 0; left-- {
		rests(t, n, -1)
		stands(t, n, left, true, false)
		isTold(t, n)
	}
	rests(t, n, -1)
	stands(t, n, 0, false, true)
}

// Qt1: the root rests: it is done, at work no more, and for good.
func TestRestRoot(t *testing.T) {
	for id := range 3 {
		n := made(t, id, 3, true)
		takes(t, n, 2, 2)
		rests(t, n, -1)
		stands(t, n, 0, false, true)
		refuses(t, n, "Rest", 0, api.ErrNone)
		refuses(t, n, "Told", 0, api.ErrNone)
		refuses(t, n, "Send", 0, api.ErrNone)
		refuses(t, n, "Take", id, api.ErrNone)
		stands(t, n, 0, false, true)
	}
}

// Qt1: another node rests: its parent is to be told; it is at work no more, till another parent wakes it.
func TestRestOther(t *testing.T) {
	n := made(t, 3, 65, false)
	refuses(t, n, "Rest", 0, api.ErrNone)
	for _, parent := range []int{64, 0, 0, 3, 7, 64, 1} {
		takes(t, n, parent, -1)
		takes(t, n, 9, 9)
		stands(t, n, 0, true, false)
		sends(t, n, 2)
		rests(t, n, -1)
		isTold(t, n)
		rests(t, n, -1)
		isTold(t, n)
		stands(t, n, 0, true, false)
		rests(t, n, parent)
		stands(t, n, 0, false, false)
		refuses(t, n, "Rest", 0, api.ErrNone)
		refuses(t, n, "Send", 1, api.ErrNone)
		refuses(t, n, "Told", 0, api.ErrNone)
	}
}

// Qt2: Owes, Works and Done at first and behind each call, spelt out.
func TestStands(t *testing.T) {
	type step struct {
		c    call
		want answer
	}
	for _, s := range []struct {
		root  bool
		first answer
		steps []step
	}{
		{true, answer{works: true}, []step{
			{call{"Send", 2}, answer{0, api.OK, 2, true, false}},
			{call{"Send", -1}, answer{0, api.ErrArg, 2, true, false}},
			{call{"Take", 1}, answer{1, api.OK, 2, true, false}},
			{call{"Take", 2}, answer{0, api.ErrArg, 2, true, false}},
			{call{"Rest", 0}, answer{-1, api.OK, 2, true, false}},
			{call{"Told", 0}, answer{0, api.OK, 1, true, false}},
			{call{"Told", 0}, answer{0, api.OK, 0, true, false}},
			{call{"Told", 0}, answer{0, api.ErrNone, 0, true, false}},
			{call{"Rest", 0}, answer{-1, api.OK, 0, false, true}},
			{call{"Rest", 0}, answer{0, api.ErrNone, 0, false, true}},
			{call{"Take", 1}, answer{0, api.ErrNone, 0, false, true}},
			{call{"Take", 2}, answer{0, api.ErrArg, 0, false, true}},
			{call{"Send", 0}, answer{0, api.ErrNone, 0, false, true}},
			{call{"Send", -1}, answer{0, api.ErrArg, 0, false, true}},
			{call{"Told", 0}, answer{0, api.ErrNone, 0, false, true}},
		}},
		{false, answer{}, []step{
			{call{"Rest", 0}, answer{0, api.ErrNone, 0, false, false}},
			{call{"Send", 1}, answer{0, api.ErrNone, 0, false, false}},
			{call{"Told", 0}, answer{0, api.ErrNone, 0, false, false}},
			{call{"Take", -1}, answer{0, api.ErrArg, 0, false, false}},
			{call{"Take", 1}, answer{-1, api.OK, 0, true, false}},
			{call{"Take", 0}, answer{0, api.OK, 0, true, false}},
			{call{"Send", 1}, answer{0, api.OK, 1, true, false}},
			{call{"Rest", 0}, answer{-1, api.OK, 1, true, false}},
			{call{"Told", 0}, answer{0, api.OK, 0, true, false}},
			{call{"Told", 0}, answer{0, api.ErrNone, 0, true, false}},
			{call{"Rest", 0}, answer{1, api.OK, 0, false, false}},
			{call{"Take", 0}, answer{-1, api.OK, 0, true, false}},
			{call{"Rest", 0}, answer{0, api.OK, 0, false, false}},
		}},
	} {
		n := made(t, 0, 2, s.root)
		stands(t, n, s.first.owes, s.first.works, s.first.done)
		for _, step := range s.steps {
			if a := step.c.of(n); a != step.want {
				t.Errorf("root %t, %v: %v, want %v", s.root, step.c, a, step.want)
			}
		}
	}
}

// The chapter's example.
func TestExample(t *testing.T) {
	root, other := made(t, 0, 2, true), made(t, 1, 2, false)
	sends(t, root, 1)
	takes(t, other, 0, -1)
	rests(t, other, 0)
	isTold(t, root)
	stands(t, root, 0, true, false)
	rests(t, root, -1)
	stands(t, root, 0, false, true)
	stands(t, other, 0, false, false)
}
