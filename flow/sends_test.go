package flow_test

import (
	"math/rand"
	"slices"
	"strings"
	"testing"

	"sinew/api"
	"sinew/store"
)

// went is all that came in a try over the family, and others who all know one, of so many workers.
func went(t *testing.T, atoms string, workers int) []mail {
	t.Helper()
	q := asking(t, rand.New(rand.NewSource(182)), atoms)
	facts := factsOf(family)
	for i := range 10 {
		facts = append(facts, api.Triple{S: v(i), P: "knows", O: "ann"}, api.Triple{S: v(i), P: "knows", O: "jim"})
	}
	stores, version := storesOf(t, facts, workers)
	w := begun(t, 4, version, q, stores, oldest)
	if r, want := w.run(), wanted(facts, q, version); !sameReply(r, want) {
		t.Errorf("%s: %v, want %v", atoms, r, want)
	}
	return w.told
}

// rowsOf are the rows of all notes of some kinds.
func rowsOf(l []mail, kinds ...int) (all [][]string) {
	for _, m := range l {
		if slices.Contains(kinds, m.note.Kind) {
			all = append(all, m.note.Rows...)
		}
	}
	return all
}

// No worker tells another node the same thing twice.
func TestToldOnce(t *testing.T) {
	for _, atoms := range asks {
		for _, workers := range []int{2, 3, 8} {
			type told struct {
				from, to, kind int
				row            string
			}
			all := map[told]struct{}{}
			for _, m := range went(t, atoms, workers) {
				for _, row := range m.note.Rows {
					x := told{m.from, m.to, m.note.Kind, strings.Join(row, " ")}
					if _, ok := all[x]; ok && x.kind != begins {
						t.Errorf("%s, %d workers, twice: %v", atoms, workers, x)
					}
					all[x] = struct{}{}
				}
			}
		}
	}
}

// Nothing is spread that searches do not ask for.
func TestSpreads(t *testing.T) {
	for _, atoms := range []string{"?x p ?y", "?x p+ ?y . ?y q* ?z", "ann p+ ?x . ?x (p|q)* ?y", "?x p/q ?y . ?y q? ?x", "ann p+ cat . ?x q ?y", "zoe p ?x . ?x r* ?y"} {
		told := went(t, atoms, 3)
		if l := rowsOf(told, vertices, edges); len(l) > 0 {
			t.Errorf("%s: %v", atoms, l)
		}
		if slices.ContainsFunc(told, func(m mail) bool { return m.note.Kind == steps && m.note.Nums[4] == toSpread }) {
			t.Errorf("%s: a step in which nothing is spread", atoms)
		}
	}
	for atoms, want := range map[string]string{"ivy p* ?x": "ivy", "cat p? ?x . ?y s ?z": "cat", "eve p* dan . ?y s ?z": "eve"} {
		for _, row := range rowsOf(went(t, atoms, 64), vertices) {
			if !slices.Equal(row, []string{want}) {
				t.Errorf("%s: %v", atoms, row)
			}
		}
	}
	for _, row := range rowsOf(went(t, "?x p/q ivy . ?x r ?y", 64), edges) {
		if row[0] != "p" && row[0] != "q" {
			t.Errorf("%v", row)
		}
	}
}

// Pairs are sent that an atom may have, and if no atom is without pairs.
func TestPairs(t *testing.T) {
	for atoms, may := range map[string]func(row []string) bool{
		"?x (p|q)+ ?x":             func(row []string) bool { return row[1] == row[2] },
		"ann (p|q)+ eve . ?x s ?y": func(row []string) bool { return row[0] == "1" || row[1] == "ann" && row[2] == "eve" },
		"?x (p|q)+ eve":            func(row []string) bool { return row[1] == "eve" },
		"bob p ?x . ?x (p|q)* ?y":  func(row []string) bool { return row[0] == "0" || row[1] == "cat" || row[1] == "dan" },
		"?y (p|q)* ?x . ann p ?x":  func(row []string) bool { return row[1] == "ann" && row[2] == "bob" || row[0] == "1" && row[1] == "bob" },
		"?x p ?y . ?y none ?z":     func(row []string) bool { return false },
		"?x p* ?y . ann p dan":     func(row []string) bool { return false },
	} {
		for _, row := range rowsOf(went(t, atoms, 8), pairs) {
			if !may(row) {
				t.Errorf("%s: %v", atoms, row)
			}
		}
	}
}

// All workers join, if there is enough for all; one alone, if there is little.
func TestCells(t *testing.T) {
	for atoms, want := range map[string]int{"?x (p|q|r|s)* ?y . ?y (p|q|r|s)* ?z . ?z (p|q|r|s)* ?x": 8, "ann p bob . hal s ?x": 1} {
		cells := 0
		for _, m := range went(t, atoms, 8) {
			if m.note.Kind == steps && m.note.Nums[4] == toJoin {
				cells++
			}
		}
		if cells != want {
			t.Errorf("%s: %d workers join", atoms, cells)
		}
	}
}

// Fl2: more pairs than layer 13 takes as a size, of one worker, and of two together.
func TestManyPairs(t *testing.T) {
	facts := ring(1030, "p")
	for _, workers := range []int{1, 2} {
		if r := held(t, facts, parsed(t, "select ?x where { ?x p* ?y }"), workers, oldest); len(r.Rows) != 1030 {
			t.Errorf("%d rows", len(r.Rows))
		}
	}
}

// R1: stores of other workers' facts: a try comes to its end all the same.
func TestMisplacedFacts(t *testing.T) {
	all, version := storesOf(t, factsOf(family), 3)
	r := rand.New(rand.NewSource(183))
	for _, atoms := range asks {
		for _, stores := range [][]*store.Store{{all[1], all[2], all[0]}, {all[0], all[0], all[0]}, {all[2], all[2], all[1], all[0]}} {
			w := begun(t, 4, version, asking(t, r, atoms), stores, byChance(r))
			if a := w.run(); a.Err != api.OK || a.Version != version {
				t.Errorf("%s: %v", atoms, a)
			}
		}
	}
}
