package model_test

import (
	"math/rand"
	"slices"
	"strings"
	"testing"

	"sinew/api"
	"sinew/model"
)

// pairsHeld holds Pairs against the plain reading.
func pairsHeld(t *testing.T, facts []api.Triple, p api.Path) {
	t.Helper()
	want, wantE := pairsBy(facts, p)
	if l, e := model.Pairs(facts, p); !sameRows(l, want) || e != wantE {
		t.Fatalf("Pairs(%v, %v): %s, %d, want %s, %d", facts, p, text(l), e, text(want), wantE)
	}
}

// rowsHeld holds Rows against the plain reading, and is what it answers.
func rowsHeld(t *testing.T, facts []api.Triple, q api.Query) ([][]string, api.Errno) {
	t.Helper()
	want, wantE := rowsBy(facts, q)
	l, e := model.Rows(facts, q)
	if !sameRows(l, want) || e != wantE {
		t.Fatalf("Rows(%v, %v): %s, %d, want %s, %d", facts, q, text(l), e, text(want), wantE)
	}
	return l, e
}

// allPaths are all paths of so many parts, over two words.
func allPaths(parts int) []api.Path {
	by := [][]api.Path{nil, {wd("p"), wd("q")}}
	for n := 2; n <= parts; n++ {
		var l []api.Path
		for _, kid := range by[n-1] {
			l = append(l, star(kid), plus(kid), maybe(kid))
		}
		for i := 1; i < n-1; i++ {
			for _, x := range by[i] {
				for _, y := range by[n-1-i] {
					l = append(l, seq(x, y), alt(x, y))
				}
			}
		}
		by = append(by, l)
	}
	return by[parts]
}

// allFacts are all sets of facts over some vertices and the predicates p and q, of which each so-many-th is told.
func allFacts(vertices string, each int, tell func(facts []api.Triple)) {
	var all []api.Triple
	for _, s := range strings.Fields(vertices) {
		for _, o := range strings.Fields(vertices) {
			all = append(all, api.Triple{S: s, P: "p", O: o}, api.Triple{S: s, P: "q", O: o})
		}
	}
	for set := 0; set < 1<<len(all); set += each {
		var facts []api.Triple
		for i, f := range all {
			if set>>i&1 == 1 {
				facts = append(facts, f)
			}
		}
		tell(facts)
	}
}

// Mo1: all sets of facts over two vertices, and all short paths.
func TestAllSmallPairs(t *testing.T) {
	var paths []api.Path
	for parts := 1; parts <= 4; parts++ {
		paths = append(paths, allPaths(parts)...)
	}
	allFacts("a b", 1, func(facts []api.Triple) {
		for _, p := range paths {
			pairsHeld(t, facts, p)
		}
	})
	allFacts("a b c", 1237, func(facts []api.Triple) {
		for _, p := range paths {
			pairsHeld(t, facts, p)
		}
	})
}

// Mo1: small sets of facts and short paths, by going over facts in all ways.
func TestAllWays(t *testing.T) {
	n := 0
	held := func(facts []api.Triple, p api.Path) {
		want := risingPairs(walkedBy(facts, p))
		if l, e := model.Pairs(facts, p); !sameRows(l, want) || e != api.OK {
			t.Fatalf("Pairs(%v, %v): %s, %d, want %s", facts, p, text(l), e, text(want))
		}
		n++
	}
	allFacts("a b", 1, func(facts []api.Triple) {
		if len(facts) > 5 {
			return
		}
		for parts := 1; parts <= 4; parts++ {
			for _, p := range allPaths(parts) {
				if len(wordsOf(p)) <= 2 {
					held(facts, p)
				}
			}
		}
	})
	allFacts("a b c", 7, func(facts []api.Triple) {
		if len(facts) == 4 {
			held(facts, seq(wd("p"), star(alt(wd("q"), wd("p")))))
			held(facts, plus(seq(wd("p"), maybe(wd("q")))))
		}
	})
	if n < 30000 {
		t.Errorf("%d held", n)
	}
}

// vertexWords are words for vertices: some stand as predicates, too, and they rise otherwise than they stand here.
var vertexWords = []string{"b", "a", "ab", "p", "-", "a:", "q", "9"}

// predicateWords are words for predicates.
var predicateWords = []string{"p", "q", "a", "r"}

// texts are such as facts may be handed in with, though they are no words.
var texts = append([]string{"p", "q", "a", "b"}, noWords...)

// pick is one of a list, of the first so many.
func pick(r *rand.Rand, l []string, most int) string {
	return l[r.Intn(min(most, len(l)))]
}

// chanceFacts are facts that look like chance, over at most so many vertices.
func chanceFacts(r *rand.Rand, vertices int) (facts []api.Triple) {
	predicates := 1 + r.Intn(1+r.Intn(3))
	for range r.Intn(2 + 4*vertices) {
		facts = append(facts, api.Triple{S: pick(r, vertexWords, vertices), P: pick(r, predicateWords, predicates), O: pick(r, vertexWords, vertices)})
	}
	if len(facts) > 0 && r.Intn(3) == 0 {
		facts = append(facts, facts[r.Intn(len(facts))])
	}
	return facts
}

// chancePath is a path that looks like chance, of at most so many words and so deep.
func chancePath(r *rand.Rand, words, deep int) api.Path {
	if deep == 1 || r.Intn(4) == 0 {
		return wd(pick(r, predicateWords, 1+r.Intn(1+r.Intn(4))))
	}
	kind := 2 + r.Intn(5)
	if kind > 3 || words < 2 {
		return api.Path{Kind: 4 + kind%3, Kids: []api.Path{chancePath(r, words, deep-1)}}
	}
	p := api.Path{Kind: kind}
	for n := 2 + r.Intn(3); words > 0 && (n > 0 || len(p.Kids) < 2); n-- {
		most := words
		if len(p.Kids) == 0 {
			most--
		}
		kid := chancePath(r, most, deep-1)
		words -= len(wordsOf(kid))
		p.Kids = append(p.Kids, kid)
	}
	return p
}

// variables are what variables are called; some are words of facts, too.
var variables = []string{"x", "y", "a", "p", "z", "b"}

// chanceQuery is a query that looks like chance and may be, of at most so many variables.
func chanceQuery(r *rand.Rand, most int) api.Query {
	var q api.Query
	for range 1 + r.Intn(1+r.Intn(6)) {
		a := api.Atom{Path: chancePath(r, 1+r.Intn(6), 1+r.Intn(4))}
		for _, t := range []*api.Term{&a.S, &a.O} {
			if r.Intn(8) == 0 {
				t.Name = pick(r, vertexWords, 1+r.Intn(len(vertexWords)))
			} else {
				*t = api.Term{Var: true, Name: pick(r, variables, most)}
			}
		}
		q.Atoms = append(q.Atoms, a)
	}
	names := namesBy(q)
	if len(names) == 0 {
		return chanceQuery(r, most)
	}
	r.Shuffle(len(names), func(i, k int) { names[i], names[k] = names[k], names[i] })
	q.Vars = names[:1+r.Intn(len(names))]
	return q
}

// Mo1: many facts and paths that look like chance and are the same in every run.
func TestChancePairs(t *testing.T) {
	r := rand.New(rand.NewSource(111))
	for range 6000 {
		pairsHeld(t, chanceFacts(r, 1+r.Intn(8)), chancePath(r, 1+r.Intn(24), 1+r.Intn(12)))
	}
}

// Mo1: pairs over more vertices than there are bits in a number.
func TestChanceManyVertices(t *testing.T) {
	r := rand.New(rand.NewSource(112))
	for range 60 {
		n := 20 + r.Intn(150)
		var facts []api.Triple
		for range n + r.Intn(n) {
			facts = append(facts, api.Triple{S: v(r.Intn(n)), P: pick(r, predicateWords, 3), O: v(r.Intn(n))})
		}
		p := chancePath(r, 1+r.Intn(8), 1+r.Intn(5))
		pairsHeld(t, facts, p)
		rowsHeld(t, facts, ask("y x", atom("?x", p, "?y")))
		rowsHeld(t, facts, ask("x y", atom("?x", p, "?y"), atom("?y", chancePath(r, 4, 3), "?x")))
		rowsHeld(t, facts, ask("x", atom("?x", p, "?x")))
	}
}

// Mo1: many facts and queries that look like chance, each choice of vertices tried.
func TestChanceRows(t *testing.T) {
	r := rand.New(rand.NewSource(113))
	none, few, lot, loops := 0, 0, 0, 0
	for range 12000 {
		names := 1 + r.Intn(6)
		q := chanceQuery(r, names)
		facts := chanceFacts(r, 1+r.Intn([]int{8, 8, 8, 6, 4, 3}[names-1]))
		l, e := rowsHeld(t, facts, q)
		switch {
		case e != api.OK:
			t.Fatalf("%v may be", q)
		case len(l) == 0:
			none++
		case len(l) < 10:
			few++
		default:
			lot++
		}
		if slices.ContainsFunc(q.Atoms, func(a api.Atom) bool { return a.S == a.O && a.S.Var }) && len(l) > 0 {
			loops++
		}
	}
	if none < 2000 || few < 2000 || lot < 300 || loops < 1000 {
		t.Errorf("%d without rows, %d with few, %d with many, %d with a loop", none, few, lot, loops)
	}
}

// Mo1: queries in which atoms bind variables in rings, of plain words, so that what fits two by two need not fit together.
func TestChanceRings(t *testing.T) {
	r := rand.New(rand.NewSource(114))
	shapes := []string{
		"?x 0 ?y . ?y 1 ?x",
		"?x 0 ?y . ?x 1 ?y . ?y 2 ?z . ?z 3 ?y",
		"?x 0 ?y . ?y 1 ?z . ?z 2 ?x",
		"?x 0 ?y . ?y 1 ?z . ?z 2 ?a . ?a 3 ?x",
		"?x 0 ?y . ?y 1 ?z . ?z 2 ?x . ?x 3 ?a . ?y 4 ?a . ?z 5 ?a",
		"?x 0 ?y . ?x 1 ?y . ?z 2 ?a . ?z 3 ?a",
		"?x 0 ?y . ?y 1 ?x . ?x 2 ?z . ?z 3 ?a . ?a 4 ?z",
		"?x 0 ?y . ?y 1 ?y . ?y 2 ?z . ?z 3 ?x . ?z 4 ?z",
		"?x 0 ?y . ?y 1 ?z . ?z 2 ?x . ?a 3 ?b . ?b 4 ?p . ?p 5 ?a",
		"?x 0 ?y . ?y 1 ?z . ?z 2 ?a . ?a 3 ?b . ?b 4 ?p . ?p 5 ?x",
	}
	rows := 0
	for range 6000 {
		shape := shapes[r.Intn(len(shapes))]
		for i := range 6 {
			word := pick(r, predicateWords, 2)
			if r.Intn(4) == 0 {
				word += []string{"+", "*", "?", "/p", "/q+"}[r.Intn(5)]
			}
			shape = strings.ReplaceAll(shape, " "+string(rune('0'+i))+" ", " "+word+" ")
		}
		q := parsed(t, "select ?x where { "+shape+" }")
		names := namesBy(q)
		r.Shuffle(len(names), func(i, k int) { names[i], names[k] = names[k], names[i] })
		q.Vars = names[:1+r.Intn(len(names))]
		n := 2 + r.Intn([]int{0, 0, 7, 7, 5, 4, 3}[len(names)])
		l, _ := rowsHeld(t, append(chanceFacts(r, n), chanceFacts(r, n)...), q)
		rows += min(len(l), 1)
	}
	if rows < 1500 || rows > 5500 {
		t.Errorf("%d of 6000 have rows", rows)
	}
}

// turns are facts by which each of so many vertices is led to, and leads on, once by p and once by q: what fits two by two is all of it. There are a few of r, too.
func turns(r *rand.Rand, n int) (facts []api.Triple) {
	for _, p := range []string{"p", "q"} {
		for from, to := range r.Perm(n) {
			facts = append(facts, api.Triple{S: v(from), P: p, O: v(to)})
		}
	}
	for range r.Intn(2 * n) {
		facts = append(facts, api.Triple{S: v(r.Intn(n)), P: "r", O: v(r.Intn(n))})
	}
	return facts
}

// Mo1: rings of atoms that bind variables of which the rows tell nothing, alone and several of them, ahead of those that rows tell and behind.
func TestChanceHiddenRings(t *testing.T) {
	r := rand.New(rand.NewSource(121))
	rings := []string{"?x 0 ?y . ?y 1 ?x", "?x 0 ?y . ?x 1 ?y", "?y 0 ?x . ?y 1 ?x", "?x 0 ?y . ?y 1 ?z . ?z 2 ?x", "?x 0 ?y . ?z 1 ?y . ?z 2 ?x", "?y 0 ?x . ?z 1 ?y . ?x 2 ?z", "?y 0 ?x . ?y 1 ?z . ?x 2 ?z"}
	binds := []string{"?a (p|q)* ?x", "?x (p|q)* ?a", "?a r ?x", "?x r/p* ?a", "?a p ?a", "?a r? ?b", "?a (r|p)* ?x . ?b p ?p . ?b q ?p", "?x (q|r)* ?a . ?p p ?a . ?a q ?p"}
	rows, full := 0, 0
	for range 8000 {
		l := []string{rings[r.Intn(len(rings))], binds[r.Intn(len(binds))]}
		r.Shuffle(2, func(i, k int) { l[i], l[k] = l[k], l[i] })
		shape := strings.Join(l, " . ")
		for i := range 3 {
			shape = strings.ReplaceAll(shape, " "+string(rune('0'+i))+" ", " "+[]string{"p", "q", "p/q", "q/q", "(p|q)", "r|q"}[r.Intn(6)]+" ")
		}
		q := parsed(t, "select ?a where { "+shape+" }")
		n := 2 + r.Intn([]int{0, 0, 0, 6, 6, 3, 2}[len(namesBy(q))])
		found, _ := rowsHeld(t, turns(r, n), q)
		if len(found) > 0 {
			rows++
		}
		if len(found) == n {
			full++
		}
	}
	if rows < 2000 || rows > 7000 || full < 1000 || full > rows-1000 {
		t.Errorf("%d of 8000 have rows, %d all vertices", rows, full)
	}
}

// Mo1: facts of texts that are no words are answered as they stand.
func TestChanceTexts(t *testing.T) {
	r := rand.New(rand.NewSource(115))
	for range 1500 {
		var facts []api.Triple
		for range r.Intn(10) {
			facts = append(facts, api.Triple{S: pick(r, texts, 3+r.Intn(9)), P: pick(r, texts, 3+r.Intn(5)), O: pick(r, texts, 3+r.Intn(9))})
		}
		if l := model.Vertices(facts); !slices.Equal(l, verticesBy(facts)) {
			t.Fatalf("Vertices(%q): %q", facts, l)
		}
		pairsHeld(t, facts, chancePath(r, 4, 4))
		rowsHeld(t, facts, chanceQuery(r, 3))
	}
}

// inOrder tells whether the rows of a list are among those of another one.
func inOrder(l, among [][]string) bool {
	for _, row := range l {
		if _, ok := slices.BinarySearchFunc(among, row, slices.Compare); !ok {
			return false
		}
	}
	return true
}

// Mo2: no row and no pair goes when a fact comes.
func TestMoreFacts(t *testing.T) {
	r := rand.New(rand.NewSource(116))
	more := 0
	for range 600 {
		q := chanceQuery(r, 4)
		p := chancePath(r, 8, 5)
		facts := chanceFacts(r, 8)
		var rows, pairs [][]string
		for n := range len(facts) + 1 {
			nextRows, e := model.Rows(facts[:n:n], q)
			nextPairs, _ := model.Pairs(facts[:n:n], p)
			if e == api.ErrMany {
				break
			}
			if !inOrder(rows, nextRows) || !inOrder(pairs, nextPairs) {
				t.Fatalf("%v, %v, %v: rows %s, then %s; pairs %s, then %s", facts[:n], q, p, text(rows), text(nextRows), text(pairs), text(nextPairs))
			}
			if len(nextRows) > len(rows) {
				more++
			}
			rows, pairs = nextRows, nextPairs
		}
	}
	if more < 1000 {
		t.Errorf("rows came %d times", more)
	}
}

// Mo2: too many rows stay too many when facts come.
func TestMoreFactsThanMay(t *testing.T) {
	facts := ring(64, "p")
	q := parsed(t, "select ?x ?y where { ?x p* ?y }")
	for i := range 20 {
		facts = append(facts, api.Triple{S: v(i), P: "p", O: "z"})
		if l, e := model.Rows(facts, q); len(l) != 0 || e != api.ErrMany {
			t.Errorf("%d facts: %d rows, %d", len(facts), len(l), e)
		}
	}
}

// sameAnswers holds two answers of Rows against each other.
func sameAnswers(t *testing.T, what string, facts []api.Triple, q api.Query, others []api.Triple, other api.Query) {
	t.Helper()
	l, e := model.Rows(facts, q)
	k, f := model.Rows(others, other)
	if !sameRows(l, k) || e != f {
		t.Fatalf("%s: Rows(%v, %v): %s, %d; Rows(%v, %v): %s, %d", what, facts, q, text(l), e, others, other, text(k), f)
	}
}

// Mo2: atoms and facts in another order, and the same ones twice.
func TestOtherOrders(t *testing.T) {
	r := rand.New(rand.NewSource(117))
	for range 2500 {
		q, facts := chanceQuery(r, 5), chanceFacts(r, 6)
		other := api.Query{Vars: q.Vars, Atoms: slices.Clone(q.Atoms)}
		r.Shuffle(len(q.Atoms), func(i, k int) { other.Atoms[i], other.Atoms[k] = other.Atoms[k], other.Atoms[i] })
		sameAnswers(t, "atoms in another order", facts, q, facts, other)
		if len(q.Atoms) < 6 {
			other.Atoms = append(other.Atoms, q.Atoms[r.Intn(len(q.Atoms))])
			sameAnswers(t, "an atom twice", facts, q, facts, other)
		}
		others := slices.Clone(facts)
		r.Shuffle(len(facts), func(i, k int) { others[i], others[k] = others[k], others[i] })
		sameAnswers(t, "facts in another order", facts, q, others, q)
		others = append(others, facts...)
		sameAnswers(t, "facts twice", facts, q, others, other)
	}
	q := parsed(t, "select ?a ?c where { ?a p ?b . ?b q ?c . ?c p ?d . ?d (p|q)* ?a . ?d q ?d }")
	facts := some("a p b, b q c, c p d, d q d, d p a, c p a, a q a, b q b")
	orders(q.Atoms, func(atoms []api.Atom) {
		sameAnswers(t, "all orders", facts, q, facts, api.Query{Vars: q.Vars, Atoms: atoms})
	})
	if l, _ := model.Rows(facts, q); len(l) == 0 {
		t.Error("no rows")
	}
}

// renamed is a query with its variables called otherwise.
func renamed(q api.Query, names map[string]string) api.Query {
	var other api.Query
	for _, name := range q.Vars {
		other.Vars = append(other.Vars, names[name])
	}
	for _, a := range q.Atoms {
		for _, t := range []*api.Term{&a.S, &a.O} {
			if t.Var {
				t.Name = names[t.Name]
			}
		}
		other.Atoms = append(other.Atoms, a)
	}
	return other
}

// Mo2: variables called otherwise, also as words, vertices and one another are.
func TestOtherNames(t *testing.T) {
	r := rand.New(rand.NewSource(118))
	callings := []string{"x", "y", "z", "a", "b", "p", "q", "-", "9", "ab", "select", "sixteen-byte-wrd", ":"}
	for range 2500 {
		q, facts := chanceQuery(r, 6), chanceFacts(r, 4)
		r.Shuffle(len(callings), func(i, k int) { callings[i], callings[k] = callings[k], callings[i] })
		names := map[string]string{}
		for i, name := range namesBy(q) {
			names[name] = callings[i]
		}
		sameAnswers(t, "other names", facts, q, facts, renamed(q, names))
	}
}

// FuzzPairs: whatever facts and a path are, they are answered as the chapter says.
func FuzzPairs(f *testing.F) {
	for _, k := range kinds {
		f.Add(knot, k.path)
	}
	f.Fuzz(func(t *testing.T, facts, path string) {
		l := factsOf(facts)
		q, ok := queryOf("select ?x where { ?x " + path + " ?x }")
		if !ok || len(l) > 60 {
			return
		}
		if got := model.Vertices(l); !slices.Equal(got, verticesBy(l)) {
			t.Errorf("Vertices(%q): %q", l, got)
		}
		pairsHeld(t, l, q.Atoms[0].Path)
		rowsHeld(t, l, ask("x", atom("?x", q.Atoms[0].Path, "?x")))
	})
}

// FuzzRows: whatever facts and a query are, they are answered as the chapter says.
func FuzzRows(f *testing.F) {
	f.Add(family, "select ?x ?y where { ?x knows ?y . ?y (knows|likes) ?z }")
	f.Add(family, "select ?x where { ?x likes bob . fay knows* fay }")
	f.Add(knot, "select ?x where { ?x p/q ?x . ?x p ?y . ?y q ?z . ?z p ?y }")
	f.Add("a p b, b p a, a q b", "select ?x ?y where { ?x p ?y . ?x q ?y . ?z p ?a . ?z q ?a }")
	f.Fuzz(func(t *testing.T, facts, asked string) {
		l := factsOf(facts)
		q, ok := queryOf(asked)
		if !ok {
			return
		}
		choices := 1
		for range namesBy(q) {
			choices *= len(verticesBy(l)) + 1
		}
		if choices < 100000 && len(l) < 60 {
			rowsHeld(t, l, q)
		}
	})
}
