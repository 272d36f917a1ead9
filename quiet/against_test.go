package quiet_test

import (
	"math/rand"
	"testing"

	"sinew/api"
)

// held runs calls on a node of a number, of so many, each held against the plain reading, and is what was answered.
func held(t *testing.T, id, nodes int, root bool, calls []call) (all []answer) {
	t.Helper()
	n, d := made(t, id, nodes, root), &diary{nodes: nodes, root: root}
	stands(t, n, 0, root, false)
	for i, c := range calls {
		want := c.by(d)
		a := c.of(n)
		if a != want {
			t.Fatalf("root %t, %d nodes: behind %v, %v: %v, want %v", root, nodes, calls[:i], c, a, want)
		}
		all = append(all, a)
	}
	return all
}

// Qt1, Qt2: all short scripts of a few calls.
func TestShortScripts(t *testing.T) {
	some := []call{{"Take", -1}, {"Take", 0}, {"Take", 1}, {"Send", 0}, {"Send", 1}, {"Send", 2}, {"Told", 0}, {"Rest", 0}}
	var script [6]call
	var from func(at int)
	from = func(at int) {
		if at == len(script) {
			held(t, 1, 2, false, script[:])
			held(t, 0, 2, true, script[:])
			return
		}
		for _, c := range some {
			script[at] = c
			from(at + 1)
		}
	}
	from(0)
}

// chanceCall is a call whose number may be, or not; a node of such calls works, owes and rests about as often as not.
func chanceCall(r *rand.Rand, nodes int) call {
	switch r.Intn(8) {
	case 0, 1:
		return call{"Take", r.Intn(nodes+2) - 1}
	case 2:
		return call{"Send", []int{0, 1, 1, 1, 2, 3, -1, 1<<20 + 1}[r.Intn(8)]}
	case 3, 4, 5:
		return call{"Told", 0}
	default:
		return call{"Rest", 0}
	}
}

// Qt1, Qt2: scripts that look like chance and are the same in every run.
func TestChanceScripts(t *testing.T) {
	r := rand.New(rand.NewSource(144))
	seen := map[api.Errno]int{}
	wakings, rests := 0, 0
	for range 20000 {
		nodes := 1 + r.Intn(65)
		var calls []call
		for range r.Intn(60) {
			calls = append(calls, chanceCall(r, nodes))
		}
		works := false
		for _, a := range held(t, r.Intn(nodes), nodes, r.Intn(4) == 0, calls) {
			seen[a.err]++
			if a.works && !works {
				wakings++
			} else if works && !a.works {
				rests++
			}
			works = a.works
		}
	}
	// What the scripts are to reach.
	if seen[api.OK] < 10000 || seen[api.ErrArg] < 1000 || seen[api.ErrNone] < 1000 || len(seen) != 3 || wakings < 20000 || rests < 20000 {
		t.Errorf("%v, woken %d times, rested %d times", seen, wakings, rests)
	}
}

// Qt1, Qt2: scripts that come near what may be owed, and go beyond it.
func TestGreatScripts(t *testing.T) {
	r := rand.New(rand.NewSource(145))
	for i := range 20 {
		calls := []call{{"Take", 0}}
		for range 1020 {
			calls = append(calls, call{"Send", 1 << 20})
		}
		for range 300 {
			c := chanceCall(r, 3)
			if c.name == "Send" {
				c.n = []int{0, 1, 1 << 19, 1<<20 - 1, 1 << 20, 1<<20 + 1, r.Intn(1 << 20)}[r.Intn(7)]
			}
			calls = append(calls, c)
		}
		refused := 0
		for k, a := range held(t, 2, 3, i%2 == 0, calls) {
			if a.err == api.ErrNone && calls[k].name == "Send" {
				refused++
			}
		}
		if refused == 0 {
			t.Error("nothing was beyond what may be owed")
		}
	}
}

// Qt1, Qt2: scripts read from bytes.
func FuzzScript(f *testing.F) {
	f.Add([]byte{})
	f.Add([]byte{2, 1, 0, 1, 0, 2, 3, 1, 3, 4, 1, 2, 5, 0, 5, 1, 6})
	f.Add([]byte{1, 0, 1, 2, 2, 1, 0, 3, 1, 3, 2, 6, 0, 5, 5, 6, 5, 6, 1, 0})
	f.Add([]byte{64, 63, 0, 1, 64, 4, 255, 4, 255, 6, 5, 0, 7})
	f.Fuzz(func(t *testing.T, script []byte) {
		if len(script) < 3 || len(script) > 400 {
			return
		}
		nodes := 1 + int(script[0])%65
		id, root := int(script[1])%nodes, script[2]%2 == 1
		var calls []call
		for rest := script[3:]; len(rest) >= 2; rest = rest[2:] {
			number := int(rest[1])
			calls = append(calls, []call{{"Take", number%(nodes+2) - 1}, {"Take", number % nodes}, {"Send", number - 1}, {"Send", number % 3}, {"Send", (number + 2) << 12}, {"Told", 0}, {"Rest", 0}}[rest[0]%7])
		}
		held(t, id, nodes, root, calls)
	})
}
