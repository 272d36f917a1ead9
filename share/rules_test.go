package share_test

import (
	"math"
	"math/rand"
	"slices"
	"strings"
	"sync"
	"testing"

	"sinew/api"
	"sinew/share"
)

// R1 and R2: Shares at arguments of all kinds, long ones too.
func TestSharesAtAll(t *testing.T) {
	edge := append([]int{0, 1, 2, 6, 7, 64, 65}, outside...)
	long := make([]int, 1000000)
	atoms := [][][]int{nil, {}, {nil}, {{}}, {{0}}, {{-1}}, {{math.MaxInt}}, {{math.MinInt}}, {nil, {5, 5, 0}}, {long}, {upTo(1000000)}, make([][]int, 1000000)}
	sizes := [][]int{nil, {}, {0}, {1 << 20}, {-1}, {math.MaxInt}, {math.MinInt}, {1, 2}, long}
	for _, workers := range edge {
		for _, vars := range edge {
			for _, a := range atoms {
				for _, s := range sizes {
					l, e := share.Shares(workers, vars, a, s)
					may := sharesMayBy(workers, vars, a, s)
					if may != (e == api.OK) || !may && (len(l) != 0 || e != api.ErrArg) || may && len(l) != vars {
						t.Fatalf("Shares(%d, %d, %d atoms, %d sizes): %v, %d", workers, vars, len(a), len(s), l, e)
					}
				}
			}
		}
	}
}

// R1: atoms of very many numbers are gone over once, not for all shares.
func TestLongAtoms(t *testing.T) {
	long := slices.Repeat(upTo(6), 200000)
	atoms, sizes := slices.Repeat([][]int{long}, 12), slices.Repeat([]int{1 << 20}, 12)
	l, e := share.Shares(64, 6, atoms, sizes)
	if text(l) != "1 1 1 1 1 64" || e != api.OK {
		t.Errorf("%v, %d", l, e)
	}
	long[len(long)-1] = 6
	refusedShares(t, 64, 6, [][]int{long[len(long)-2:]}, sizes[:1])
	if l, e := share.Shares(64, 6, atoms, sizes); len(l) != 0 || e != api.ErrArg {
		t.Errorf("the last of many numbers is none: %v, %d", l, e)
	}
}

// R1 and R2: Cells, Part and Route at arguments of all kinds, long ones too.
func TestRouteAtAll(t *testing.T) {
	long := make([]int, 1000000)
	lists := [][]int{nil, {}, {0}, {1}, {2, 3}, {64}, {65}, {-1}, {1, 1}, {0, 0}, {1, 0}, {math.MinInt}, {math.MaxInt}, {math.MaxInt, math.MaxInt}, upTo(16), upTo(17), slices.Repeat([]int{1}, 16), slices.Repeat([]int{1}, 17), slices.Repeat([]int{64}, 16), long, upTo(1000000)}
	words := [][]string{nil, {}, {""}, {"ann"}, {"ann", "bob"}, {"\xff#", "\x00"}, {strings.Repeat("z", 1<<22)}, make([]string, 16), make([]string, 17), make([]string, 1000000)}
	for _, shares := range lists {
		n, e := share.Cells(shares)
		if may := mayBeBy(shares); may != (e == api.OK) || !may && (n != 0 || e != api.ErrArg) {
			t.Fatalf("Cells(%.100v): %d, %d", shares, n, e)
		}
		for _, vars := range lists {
			for _, some := range words {
				l, e := share.Route(shares, vars, some)
				may := routeMayBy(shares, vars, some)
				if may != (e == api.OK) || !may && (len(l) != 0 || e != api.ErrArg) {
					t.Fatalf("Route(%.100v, %.100v, %d words): %v, %d", shares, vars, len(some), l, e)
				}
			}
		}
	}
	for _, parts := range append(upTo(70), outside...) {
		if n := share.Part(strings.Repeat("long", 1<<20), parts); n < 0 || n >= max(1, parts) {
			t.Errorf("Part of %d: %d", parts, n)
		}
	}
}

// roomy is a list with something in the room behind its end.
func roomy[T any](l []T, behind T) []T {
	out := append(slices.Clone(l), behind, behind, behind)
	return out[:len(l)]
}

// isAsRoomy tells whether a list of roomy is as it was, and what is behind its end.
func isAsRoomy[T comparable](room, l []T, behind T) bool {
	return slices.Equal(room[:len(l)+3], append(slices.Clone(l), behind, behind, behind))
}

// R3: nothing that is handed in to Shares is changed, and nothing behind a list's end is read or changed.
func TestHandedInToShares(t *testing.T) {
	r := rand.New(rand.NewSource(140))
	for i := range 2000 {
		a := chanceShares(r, 1+r.Intn(32), 1+r.Intn(4), 8)
		if i%5 == 0 {
			a.atoms, a.sizes = append(a.atoms, []int{0, 1, 99}), append(a.sizes, 3)
		}
		// Behind the ends are numbers and sizes that may not be, or that would change the shares.
		stray := []int{-1, 0}[i%2]
		room := asked{workers: a.workers, vars: a.vars, sizes: roomy(a.sizes, 1000+stray*2000)}
		for _, atom := range a.atoms {
			room.atoms = append(room.atoms, roomy(atom, stray))
		}
		lists := roomy(room.atoms, []int{stray})
		room.atoms = lists
		room.held(t)
		for k, atom := range a.atoms {
			if !isAsRoomy(lists[k], atom, stray) {
				t.Fatalf("atom %d was changed: %v, want %v", k, lists[k], atom)
			}
		}
		for _, behind := range lists[len(a.atoms) : len(a.atoms)+3] {
			if !slices.Equal(behind, []int{stray}) {
				t.Fatalf("what is behind the atoms was changed: %v", behind)
			}
		}
		if len(lists) != len(a.atoms) || !isAsRoomy(room.sizes, a.sizes, 1000+stray*2000) {
			t.Fatalf("sizes were changed: %v, want %v", room.sizes, a.sizes)
		}
	}
}

// R3: nothing that is handed in to Cells and Route is changed, and nothing behind a list's end is read or changed.
func TestHandedInToRoute(t *testing.T) {
	r := rand.New(rand.NewSource(141))
	for i := range 5000 {
		shares := chanceParts(r, 1+r.Intn(5))
		vars, words := []int{}, []string{}
		for range r.Intn(4) {
			vars, words = append(vars, r.Intn(len(shares)+i%2)), append(words, chanceWord(r))
		}
		stray := []int{-1, 0, 2}[i%3]
		roomShares, roomVars, roomWords := roomy(shares, stray), roomy(vars, stray), roomy(words, "stray")
		heldRoute(t, roomShares, roomVars, roomWords)
		if n, e := share.Cells(roomShares); int64(n) != product(shares).Int64() || e != api.OK {
			t.Fatalf("Cells(%v): %d, %d", shares, n, e)
		}
		if !isAsRoomy(roomShares, shares, stray) || !isAsRoomy(roomVars, vars, stray) || !isAsRoomy(roomWords, words, "stray") {
			t.Fatalf("changed: %v %v %q, want %v %v %q", roomShares, roomVars, roomWords, shares, vars, words)
		}
	}
}

// spoil changes all numbers of a list, with the room behind its end.
func spoil(l []int) {
	for i := range l[:cap(l)] {
		l[:cap(l)][i] = -77
	}
}

// R3: an answer's list is new memory: it shares none with another answer nor with what was handed in.
func TestMemory(t *testing.T) {
	r := rand.New(rand.NewSource(142))
	for range 1000 {
		a := chanceShares(r, 1+r.Intn(64), r.Intn(7), 6)
		first, _ := a.shares()
		kept := slices.Clone(first)
		again, _ := a.shares()
		spoil(again)
		if l, _ := a.held(t); !slices.Equal(l, kept) || !slices.Equal(first, kept) {
			t.Fatalf("%v: answers share memory: %v, %v, %v", a, first, kept, l)
		}
		shares, vars := chanceParts(r, 1+r.Intn(6)), []int{0}
		keptShares, words := slices.Clone(shares), []string{chanceWord(r)}
		cells, _ := share.Route(shares, vars, words)
		keptCells := slices.Clone(cells)
		more, _ := share.Route(shares, vars, words)
		spoil(more)
		if l, _ := heldRoute(t, shares, vars, words); !slices.Equal(l, keptCells) || !slices.Equal(cells, keptCells) || !slices.Equal(shares, keptShares) || vars[0] != 0 {
			t.Fatalf("Route(%v, %v, %q): answers share memory: %v, %v, %v", shares, vars, words, cells, keptCells, l)
		}
	}
}

// R3: nil and the empty list are the same.
func TestNilAndEmpty(t *testing.T) {
	for _, atoms := range [][][]int{nil, {}} {
		for _, sizes := range [][]int{nil, {}} {
			if l, e := share.Shares(9, 2, atoms, sizes); text(l) != "1 1" || e != api.OK {
				t.Errorf("Shares: %v, %d", l, e)
			}
		}
	}
	for _, empty := range [][]int{nil, {}} {
		if l, e := share.Shares(9, 2, [][]int{empty, {1}}, []int{5, 9}); text(l) != "1 9" || e != api.OK {
			t.Errorf("Shares: %v, %d", l, e)
		}
		for _, vars := range [][]int{nil, {}} {
			for _, words := range [][]string{nil, {}} {
				if l, e := share.Route(empty, vars, words); text(l) != "0" || e != api.OK {
					t.Errorf("Route: %v, %d", l, e)
				}
			}
		}
	}
}

// R4: the same arguments have the same answer, also at the same time, and whatever was asked between.
func TestSameAnswer(t *testing.T) {
	r := rand.New(rand.NewSource(143))
	var all []asked
	var want, cells [][]int
	words := []string{"ann", "bob", "cid"}
	for range 200 {
		a := chanceShares(r, 1+r.Intn(64), 3+r.Intn(4), 8)
		l, _ := a.shares()
		to, _ := share.Route(l, []int{2, 0, 1}, words)
		all, want, cells = append(all, a), append(want, l), append(cells, to)
	}
	var wait sync.WaitGroup
	for from := range 8 {
		wait.Go(func() {
			for i := range all {
				at := (i*7 + from*31) % len(all)
				l, e := all[at].shares()
				to, toE := share.Route(want[at], []int{2, 0, 1}, words)
				if !slices.Equal(l, want[at]) || !slices.Equal(to, cells[at]) || e != api.OK || toE != api.OK {
					t.Errorf("%v: %v, %v, then %v, %v, %d, %d", all[at], want[at], cells[at], l, to, e, toE)
				}
			}
		})
	}
	wait.Wait()
}
