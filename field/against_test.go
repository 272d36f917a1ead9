package field_test

import (
	"math"
	"math/rand"
	"strings"
	"testing"

	"sinew/api"
	"sinew/field"
)

// held is a field and the plain reading of it: each call is done with both, and their answers are held against each other.
type held struct {
	t     *testing.T
	f     *field.Field
	b     *ledger
	calls []call
}

func newHeld(t *testing.T, nodes int) *held {
	return &held{t: t, f: made(t, nodes), b: &ledger{nodes: nodes}}
}

func (h *held) do(c call) answer {
	h.t.Helper()
	want, a := c.of(h.b), c.of(h.f)
	if a != want {
		h.t.Fatalf("%d nodes: behind %v, %v: %v, want %v", h.b.nodes, h.calls, c, a, want)
	}
	h.calls = append(h.calls, c)
	if is, must := stateOf(h.f), stateOf(h.b); !is.same(must) {
		h.t.Fatalf("%d nodes: behind %v it stands %v, want %v", h.b.nodes, h.calls, is, must)
	}
	return a
}

// Fd1, Fd2: all short scripts of a few calls.
func TestShortScripts(t *testing.T) {
	some := []call{send(0, 1, "a"), send(1, 0, "b"), send(1, 2, "c"), copyOf(1), copyOf(2), copyOf(3), arrive(1), arrive(2), arrive(3)}
	var script [5]call
	var from func(at int)
	from = func(at int) {
		if at == len(script) {
			h := newHeld(t, 2)
			for _, c := range script {
				h.do(c)
			}
			return
		}
		for _, c := range some {
			script[at] = c
			from(at + 1)
		}
	}
	from(0)
}

func one[T any](r *rand.Rand, l ...T) T { return l[r.Intn(len(l))] }

// chanceNode is a node, or now and then none.
func chanceNode(r *rand.Rand, nodes int) int {
	if r.Intn(12) == 0 {
		return one(r, -1, nodes, nodes+1, 65, math.MinInt, math.MaxInt)
	}
	return r.Intn(nodes)
}

// chanceId is a number that is mostly under way, and else was, is none as yet, or never will be one.
func chanceId(r *rand.Rand, b *ledger) int {
	if l := b.Ids(); len(l) > 0 && r.Intn(4) > 0 {
		return one(r, l...)
	}
	return one(r, r.Intn(len(b.all)+1), len(b.all)+1, -r.Intn(5), math.MinInt, math.MaxInt)
}

func chanceText(r *rand.Rand) string {
	b := make([]byte, r.Intn(5))
	r.Read(b)
	return string(b)
}

// chanceCall is a call that may be, or not; so many of ten let a packet be under way.
func chanceCall(r *rand.Rand, b *ledger, more int) call {
	switch {
	case r.Intn(10) >= more:
		return arrive(chanceId(r, b))
	case r.Intn(2) == 0:
		return copyOf(chanceId(r, b))
	default:
		return send(chanceNode(r, b.nodes), chanceNode(r, b.nodes), chanceText(r))
	}
}

// Fd1, Fd2: scripts that look like chance and are the same in every run.
func TestChanceScripts(t *testing.T) {
	r := rand.New(rand.NewSource(162))
	seen := map[string]map[api.Errno]int{"Send": {}, "Copy": {}, "Arrive": {}}
	for range 1500 {
		h := newHeld(t, one(r, 1, 2, 3, 64, 65))
		for range 20 + r.Intn(100) {
			c := chanceCall(r, h.b, 5+r.Intn(3))
			seen[c.name][h.do(c).err]++
		}
	}
	// What the scripts are to reach.
	for name, least := range map[string]map[api.Errno]int{"Send": {api.OK: 20000, api.ErrArg: 1000}, "Copy": {api.OK: 10000, api.ErrNone: 1000}, "Arrive": {api.OK: 10000, api.ErrNone: 1000}} {
		for e, n := range least {
			if seen[name][e] < n || len(seen[name]) != len(least) {
				t.Errorf("%s: %v, want %d of %d", name, seen[name], n, e)
			}
		}
	}
}

// Fd1, Fd2: scripts of nearly as many packets as may be, and of as many.
func TestGreatScripts(t *testing.T) {
	r := rand.New(rand.NewSource(163))
	great := strings.Repeat("x", 1<<20+65)
	seen := map[api.Errno]int{}
	for _, less := range []int{0, 1, 5, 12} {
		h := newHeld(t, 3)
		for k := range most - less {
			h.b.all = append(h.b.all, entry{from: k % 3, to: k % 2, bytes: "y"})
			gives(t, h.f, send(k%3, k%2, "y"), k+1)
		}
		for range 150 {
			c := chanceCall(r, h.b, 7)
			if c.name == "Send" {
				c.bytes = one(r, c.bytes, c.bytes, c.bytes, great, great[1:])
			}
			seen[h.do(c).err]++
			h.calls = nil
		}
	}
	if seen[api.OK] < 200 || seen[api.ErrArg] < 20 || seen[api.ErrFull] < 100 || seen[api.ErrNone] < 20 {
		t.Errorf("%v", seen)
	}
}

// Fd1, Fd2: scripts read from bytes.
func FuzzScript(f *testing.F) {
	f.Add([]byte{})
	f.Add([]byte{1, 0, 0, 1, 2, 1, 0, 0, 1, 1, 4, 0, 0})
	f.Add([]byte{2, 0, 1, 2, 3, 2, 1, 3, 5, 1, 1, 3, 2, 3, 0, 9, 4, 7, 1, 0, 1, 6, 2, 3, 4})
	f.Add([]byte{64, 0, 64, 0, 0, 65, 0, 6, 255, 9, 2, 7, 7, 5, 128, 30})
	f.Fuzz(func(t *testing.T, script []byte) {
		if len(script) == 0 || len(script) > 300 {
			return
		}
		h := newHeld(t, 1+int(script[0])%65)
		for rest := script[1:]; len(rest) >= 3; rest = rest[3:] {
			a, b := int(rest[1]), int(rest[2])
			switch rest[0] % 7 {
			case 0:
				h.do(send(a-1, b-1, ""))
			case 1:
				h.do(send(a%h.b.nodes, b%h.b.nodes, string(rest[:2])))
			case 2:
				h.do(arrive(a - 1))
			case 3:
				h.do(copyOf(a - 1))
			case 4:
				h.do(arrive(h.b.Pick(a)))
			case 5:
				h.do(copyOf(h.b.Pick(a)))
			case 6:
				// A place far away, on either side of 0.
				if n := (a - 128) << (b % 57); h.f.Pick(n) != h.b.Pick(n) {
					t.Fatalf("behind %v, Pick(%d): %d, want %d", h.calls, n, h.f.Pick(n), h.b.Pick(n))
				}
			}
		}
	})
}
