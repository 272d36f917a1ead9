package flow_test

import (
	"math/rand"
	"slices"
	"strconv"
	"strings"
	"testing"

	"sinew/api"
	"sinew/query"
)

// manies are how many workers there are.
var manies = []int{1, 2, 3, 8, 64}

// family are facts over which queries of all kinds have rows.
const family = "ann p bob, bob p cat, cat p ann, bob p dan, dan q eve, eve q dan, eve q eve, ann q ann, cat r fay, fay r gus, gus p fay, p p q, q q p, hal s ivy, 9 p -, - p :, : q 9"

// asks are queries of all kinds.
var asks = []string{
	// Paths of all kinds.
	"?x p ?y", "?x p/q ?y", "?x p|q ?y", "?x p* ?y", "?x p+ ?y", "?x p? ?y",
	"?x (p/q)* ?y", "?x (p|r)+ ?y", "?x (p/p)? ?y", "?x (p*/q*)* ?y", "?x p?/q+/r* ?y", "?x ((p|q)/(r|s)?)+ ?y", "?x (p+)+ ?y", "?x (p*)* ?y", "?x (p?)? ?y", "?x (p|q|r|s)* ?y",
	"?x p/p/p/p ?y", "?x p/(p|q)/(q|p)/q ?y", "?x (p/p|q/q)* ?y", "?x p/q?/r?/s? ?y",
	// Vertices that are given, at either end and at both; words that are no vertices.
	"ann p ?x", "?x p ann", "ann p+ ?x", "?x p+ ann", "ann p* ?x", "?x p* ann", "ivy s* ?x", "?x s* ivy", "hal s? ?x", "?x s? hal", "ivy q* ?x", "?x q* ivy",
	"zoe p* ?x", "?x p* zoe", "zoe p ?x", "?x p zoe", "ann zoe ?x", "s p* ?x", "?x s* r",
	"ann p+ cat . ?x q ?x", "ann p+ eve . ?x q ?x", "ann p* ann . ?x q ?x", "zoe p* zoe . ?x q ?x", "ivy p* ivy . ?x q ?x", "ann p bob . bob p cat . cat p ?x", "ann p bob . bob p ann . cat p ?x",
	"9 p ?x", "?x p -", ": q* ?x", "p p ?x", "?x q p",
	// Variables that are the same.
	"?x p ?x", "?x q ?x", "?x p+ ?x", "?x q* ?x", "?x (p|r)* ?x", "?x r? ?x", "?x p/p/p ?x",
	// Several atoms: rows, rings, stars, trees, such as share nothing, the same one twice.
	"?x p ?y . ?y p ?z", "?x p ?y . ?y p ?z . ?z p ?x", "?x p+ ?y . ?y q+ ?z", "?x p ?y . ?x q ?z", "?y p ?x . ?z q ?x",
	"?x p ?y . ?z q ?w", "?x p* ?y . ?z q* ?w", "?x p ?y . ?x p ?y", "?x p ?y . ?x q ?y", "?x p* ?y . ?y p* ?x",
	"?a p ?b . ?b p ?c . ?c p ?d . ?d q ?e . ?e q ?f", "?a p ?b . ?b p ?c . ?c p ?a . ?a q ?a . ?b p+ ?d . ?d q* ?e",
	"?a p* ?b . ?b q* ?c . ?c r* ?d . ?d s* ?e . ?e p* ?f . ?f q* ?a", "ann p+ ?x . ?x q+ ?y . ?y q ?y", "ann p* ?x . ?x q* eve", "?x p* ann . ?x p+ ?y . ?y q ?z",
	"ann p ?x . ?y p ?x", "?x p ?y . cat r ?z . ?z r ?w", "?x p gus . ?x q* ?y", "?x r ?y . ?y r gus", "?x p fay . cat r fay . ?y r ?x",
	"?x p/q ?y . ?y q* ?z . ?z q eve", "?x p? ?y . ?y q? ?z . ?z r? ?x", "?x p+ bob . ?y p+ bob . ?x q ?y",
	// No rows.
	"?x none ?y", "?x p ?y . ?y none ?z", "?x r ?x", "?x r/r/r ?y", "?x s/s ?y", "?x none+ ?x", "?x p ?y . ?y s ?z",
}

// asking is a query of what atoms are asked, all their variables or some of them in some order.
func asking(t *testing.T, r *rand.Rand, atoms string) api.Query {
	t.Helper()
	var names []string
	for _, s := range strings.Fields(atoms) {
		if strings.HasPrefix(s, "?") && !slices.Contains(names, s) {
			names = append(names, s)
		}
	}
	r.Shuffle(len(names), func(i, k int) { names[i], names[k] = names[k], names[i] })
	if r.Intn(2) == 0 {
		names = names[:1+r.Intn(len(names))]
	}
	return parsed(t, "select "+strings.Join(names, " ")+" where { "+atoms+" }")
}

// Fl3: queries of all kinds, many numbers of workers, notes turned about in many ways.
func TestAllKinds(t *testing.T) {
	r := rand.New(rand.NewSource(171))
	rows := 0
	for _, atoms := range asks {
		for _, workers := range manies {
			l := orders(r)
			for range 2 {
				reply := held(t, factsOf(family), asking(t, r, atoms), workers, l[r.Intn(len(l))])
				rows += min(len(reply.Rows), 1)
			}
		}
	}
	if all := len(asks) * len(manies) * 2; rows < all/2 || rows > all*9/10 {
		t.Errorf("%d of %d have rows", rows, all)
	}
}

// Fl3: all orders of atoms, and all orders of notes of some kinds.
func TestAllOrders(t *testing.T) {
	r := rand.New(rand.NewSource(172))
	for _, atoms := range []string{"ann p+ ?x . ?x q+ ?y . ?y q ?y", "?x p* ann . ?x p+ ?y . ?y q ?z", "?x p ?y . ?y p ?z . ?z p ?x", "?x p* ivy . ?y q* ?x . ann p ?z", "?x (p|s)* ?y . ?y (p|s)* ?x . hal s* ?y"} {
		l := strings.Split(atoms, " . ")
		for range 6 {
			r.Shuffle(len(l), func(i, k int) { l[i], l[k] = l[k], l[i] })
			for _, next := range orders(r) {
				held(t, factsOf(family), asking(t, r, strings.Join(l, " . ")), 3, next)
			}
		}
	}
}

// chancePath is a path's text that looks like chance.
func chancePath(r *rand.Rand, deep int) string {
	if deep == 1 || r.Intn(4) == 0 {
		return []string{"p", "q", "r", "a"}[r.Intn(1+r.Intn(1+r.Intn(4)))]
	}
	if r.Intn(2) == 0 {
		return "(" + chancePath(r, deep-1) + ")" + []string{"*", "+", "?"}[r.Intn(3)]
	}
	var l []string
	for range 2 + r.Intn(2) {
		l = append(l, chancePath(r, deep-1))
	}
	return "(" + strings.Join(l, []string{"/", "|"}[r.Intn(2)]) + ")"
}

// vertexWords are words for vertices: some stand as predicates, too, and for two and three workers they live in many places.
var vertexWords = []string{"a", "b", "p", "ab", "-", "q:", "9", "0"}

// chanceFacts are facts that look like chance, over so many vertices at the most.
func chanceFacts(r *rand.Rand, vertices int) (facts []api.Triple) {
	predicates := 1 + r.Intn(1+r.Intn(3))
	for range r.Intn(2 + 6*vertices) {
		facts = append(facts, api.Triple{S: vertexWords[r.Intn(vertices)], P: []string{"p", "q", "r", "a"}[r.Intn(predicates)], O: vertexWords[r.Intn(vertices)]})
	}
	return facts
}

// chanceAtoms are atoms that look like chance, with at least one variable.
func chanceAtoms(r *rand.Rand, most int) string {
	var l []string
	term := func() string {
		if r.Intn(12) == 0 {
			return vertexWords[r.Intn(len(vertexWords))]
		}
		return "?" + []string{"x", "y", "z", "a", "p", "b"}[r.Intn(most)]
	}
	for range 1 + r.Intn(1+r.Intn(6)) {
		l = append(l, term()+" "+chancePath(r, 1+r.Intn(4))+" "+term())
	}
	s := strings.Join(l, " . ")
	// The ? of a path has no blank ahead of it, the ? of a name has.
	if _, _, e := query.Parse("select ?none where { " + s + " }"); e == api.ErrDeep || !strings.Contains(" "+s, " ?") {
		return chanceAtoms(r, most)
	}
	return s
}

// Fl3: many queries, facts and turns that look like chance and are the same in every run.
func TestChance(t *testing.T) {
	r := rand.New(rand.NewSource(173))
	none, few, lot := 0, 0, 0
	for range 4000 {
		names := 1 + r.Intn(6)
		facts := chanceFacts(r, 1+r.Intn([]int{8, 8, 8, 6, 4, 3}[names-1]))
		l := orders(r)
		reply := held(t, facts, asking(t, r, chanceAtoms(r, names)), []int{1, 2, 2, 3, 3, 8}[r.Intn(6)], l[r.Intn(len(l))])
		switch n := len(reply.Rows); {
		case n == 0:
			none++
		case n < 10:
			few++
		default:
			lot++
		}
	}
	if none < 400 || few < 800 || lot < 200 {
		t.Errorf("%d without rows, %d with few, %d with many", none, few, lot)
	}
}

// v is a word of a number.
func v(n int) string { return "v" + strconv.Itoa(n) }

// Fl3: more vertices than workers, so that all of them have some, and paths lead on from one to the other.
func TestChanceManyVertices(t *testing.T) {
	r := rand.New(rand.NewSource(174))
	for range 60 {
		n := 20 + r.Intn(100)
		var facts []api.Triple
		for range n + r.Intn(n) {
			facts = append(facts, api.Triple{S: v(r.Intn(n)), P: []string{"p", "q", "r"}[r.Intn(3)], O: v(r.Intn(n))})
		}
		l := orders(r)
		for _, atoms := range []string{"?x PATH ?y", "v1 PATH ?y", "?x PATH v2", "?x PATH ?x", "?x PATH ?y . ?y p ?x", "v1 PATH ?x . ?x q ?y . ?y PATH v3"} {
			held(t, facts, asking(t, r, strings.ReplaceAll(atoms, "PATH", chancePath(r, 1+r.Intn(4)))), manies[r.Intn(len(manies))], l[r.Intn(len(l))])
		}
	}
}

// ring are facts that lead round so many vertices.
func ring(n int, p string) (facts []api.Triple) {
	for i := range n {
		facts = append(facts, api.Triple{S: v(i), P: p, O: v((i + 1) % n)})
	}
	return facts
}

// Fl2: as many rows as may be, and one more; in one cell, and in all together.
func TestMostRows(t *testing.T) {
	star := func(n int) (facts []api.Triple) {
		for i := range n {
			facts = append(facts, api.Triple{S: v(i), P: "p", O: "hub"})
		}
		return facts
	}
	for _, workers := range []int{2, 3, 64} {
		for _, x := range []struct {
			facts []api.Triple
			atoms string
			rows  int
		}{
			{ring(64, "p"), "?x p* ?y", 4096},
			{ring(65, "p"), "?x p* ?y", -1},
			{ring(65, "p"), "?x p+ ?y . ?y p+ ?x", -1},
			{star(4096), "?x p hub", 4096},
			{star(4096), "?x p* hub", -1},
			{star(4097), "?x p ?y", -1},
			{star(64), "?x p ?y . ?z p ?y", 4096},
			{star(65), "?x p ?y . ?z p ?y", -1},
			{star(65), "?x p/none* ?y . ?z p ?y . ?x p ?a", -1},
		} {
			q := parsed(t, "select ?x "+map[bool]string{true: "?z", false: ""}[strings.Contains(x.atoms, "?z")]+map[bool]string{true: "?y", false: ""}[strings.Contains(x.atoms, "?y") && !strings.Contains(x.atoms, "?z")]+" where { "+x.atoms+" }")
			r := held(t, x.facts, q, workers, oldest)
			if x.rows < 0 && r.Err != api.ErrMany || x.rows >= 0 && (r.Err != api.OK || len(r.Rows) != x.rows) {
				t.Errorf("%d workers, %s: %d rows, %d", workers, textOf(q), len(r.Rows), r.Err)
			}
		}
	}
	// Choices are far more than rows: all but one variable are not asked for.
	held(t, ring(300, "p"), parsed(t, "select ?x where { ?x p* ?y . ?y p ?z }"), 8, oldest)
}

// Fl3: paths of as many words as may be, and as deep, atoms and variables as many as may be, words as long.
func TestGreatQueries(t *testing.T) {
	word := func(i int) string { return strings.Repeat("w", 14) + strconv.Itoa(10+i) }
	var facts []api.Triple
	var l []string
	for i := range 24 {
		facts = append(facts, api.Triple{S: v(i), P: word(i), O: v(i + 1)})
		l = append(l, word(i))
	}
	facts = append(facts, api.Triple{S: v(24), P: word(0), O: v(0)})
	long := strings.Join(l, "/")
	wide := "(" + strings.Join(l, "|") + ")"
	many := "(" + strings.Join(l, "*/") + "*)*"
	deep := strings.Repeat("(", 10) + word(0) + "/" + word(1) + strings.Repeat(")*", 10)
	for _, path := range []string{long, wide, wide + "+", wide + "*", many, deep, "(" + long + ")+"} {
		for _, atoms := range []string{"?x PATH ?y", "v0 PATH ?y", "?x PATH v24", "?x PATH ?x", "v0 PATH v24 . v0 " + word(0) + " ?x"} {
			q := asking(t, rand.New(rand.NewSource(175)), strings.ReplaceAll(atoms, "PATH", path))
			held(t, facts, q, 3, oldest)
		}
	}
	// Its text is longer than can be read, and it may be all the same.
	var q api.Query
	for i := range 6 {
		x, y := api.Term{Var: true, Name: "x" + strings.Repeat("y", 14) + strconv.Itoa(i)}, api.Term{Var: true, Name: "x" + strings.Repeat("y", 14) + strconv.Itoa((i+1)%6)}
		q.Vars = append(q.Vars, x.Name)
		q.Atoms = append(q.Atoms, api.Atom{S: x, Path: parsed(t, "select ?x where { ?x "+many+" ?x }").Atoms[0].Path, O: y})
		for k := range 24 {
			// Each word as deep as may be.
			kid := q.Atoms[i].Path.Kids[0].Kids[k]
			for n := range 8 {
				kid = api.Path{Kind: api.PathStar + n%3, Kids: []api.Path{kid}}
			}
			q.Atoms[i].Path.Kids[0].Kids[k] = kid
		}
	}
	if s := textOf(q); len(s) <= api.MaxText {
		t.Fatalf("%d bytes", len(s))
	}
	held(t, ring(3, word(5)), q, 3, oldest)
	// Six atoms between twelve words.
	held(t, factsOf(family), parsed(t, "select ?x where { ann p bob . cat p* ann . dan q eve . gus p fay . hal s ivy . ?x q* dan }"), 8, oldest)
	held(t, nil, parsed(t, "select ?x where { ?x p* ?x }"), 8, oldest)
}

// Fl3: many words that are as long as may be: notes are such as lines take.
func TestLongWords(t *testing.T) {
	var facts []api.Triple
	for i := range 1900 {
		n := strconv.Itoa(1000 + i)
		facts = append(facts, api.Triple{S: strings.Repeat("s", 12) + n, P: strings.Repeat("p", 16), O: strings.Repeat("o", 12) + n})
	}
	p := facts[0].P
	for _, atoms := range []string{"?x " + p + "* ?x", "?x " + p + " ?y", "?x " + p + "* " + facts[7].O, facts[7].S + " " + p + " ?y . ?x " + p + " ?z"} {
		for _, workers := range []int{1, 2, 3} {
			if r := held(t, facts, asking(t, rand.New(rand.NewSource(184)), atoms), workers, oldest); len(r.Rows) == 0 {
				t.Errorf("%s: no rows", atoms)
			}
		}
	}
}

// Fl3: all turns of notes of small worlds, some of them from the second step on. How a world stands hangs on the order in which notes came to each node, not on those of others in between: each is gone on from once.
func TestAllTurns(t *testing.T) {
	for _, x := range []struct {
		facts, atoms string
		whole        bool
	}{
		{"a p b, b p c", "a p+ ?x", true},
		{"a p b, b p a", "a p* ?x . ?x p a", false},
		{"a p b", "?x p* b", false},
		{"a p b, b q a", "b q ?x . ?x p ?y", true},
	} {
		facts, q := factsOf(x.facts), asking(t, rand.New(rand.NewSource(1)), x.atoms)
		stores, version := storesOf(t, facts, 2)
		want := wanted(facts, q, version)
		seen := map[string]struct{}{}
		ends := 0
		for todo := [][]int{nil}; len(todo) > 0; {
			chosen := todo[len(todo)-1]
			todo = todo[:len(todo)-1]
			at := 0
			w := begun(t, 1, version, q, stores, oldest)
			for !x.whole && w.stepOf(0) == 0 {
				w.step()
			}
			w.next = func([]mail) int { at++; return chosen[at-1] }
			for range chosen {
				w.step()
			}
			if _, ok := seen[w.standing()]; ok {
				continue
			}
			seen[w.standing()] = struct{}{}
			for next := range w.first {
				todo = append(todo, append(slices.Clone(chosen), next))
			}
			if len(w.first) > 0 {
				continue
			}
			ends++
			if r := w.reply(); !sameReply(r, want) {
				t.Fatalf("%s, %v: %v, want %v", x.atoms, chosen, r, want)
			}
		}
		t.Logf("%s: %d standings, %d of them at the end", x.atoms, len(seen), ends)
		if ends < 2 {
			t.Errorf("%s: %d ends", x.atoms, ends)
		}
	}
}

// standing is, of each node, from whom notes came there, in their order.
func (w *world) standing() string {
	l := make([]string, len(w.workers)+1)
	for _, m := range w.told {
		l[m.to] += strconv.Itoa(m.from)
	}
	return strings.Join(l, " ")
}
