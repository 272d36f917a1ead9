package model_test

import (
	"math"
	"math/rand"
	"slices"
	"strconv"
	"strings"
	"testing"
	"unsafe"

	"sinew/api"
	"sinew/model"
	"sinew/query"
)

// factsOf are facts of any text: what stands between blanks, up to three pieces a comma; what is missing is empty.
func factsOf(s string) (facts []api.Triple) {
	for _, f := range strings.Split(s, ",") {
		l := append(strings.Fields(f), "", "", "")
		facts = append(facts, api.Triple{S: l[0], P: l[1], O: l[2]})
	}
	return facts
}

// queryOf is the query of a text; false, if it is none.
func queryOf(s string) (api.Query, bool) {
	r, _, e := query.Parse(s)
	return r.Query, e == api.OK && r.Kind == api.AskRows
}

// R1: paths that are deep, broad, have themselves as kids, or are of no kind; all are answered, and soon.
func TestPathsHandedIn(t *testing.T) {
	deep := wd("p")
	for range 1000000 {
		deep = star(deep)
	}
	ownKid := api.Path{Kind: api.PathStar, Kids: make([]api.Path, 1)}
	ownKid.Kids[0] = ownKid
	round := api.Path{Kind: api.PathSeq, Kids: make([]api.Path, 2)}
	round.Kids[0], round.Kids[1] = round, round
	shared := wd("p")
	for range 11 {
		shared = alt(slices.Repeat([]api.Path{shared}, 1000)...)
	}
	broad := make([]api.Path, 3000000)
	facts := some("a p b, b p a")
	for i, p := range []api.Path{deep, ownKid, round, shared, alt(broad...), {Kind: 99, Kids: broad}, {Kind: api.PathWord, Word: "p", Kids: broad}, {Kind: api.PathStar, Kids: broad}, wd(strings.Repeat("p", 1<<24)), {}, {Kind: math.MinInt}, {Kind: math.MaxInt}} {
		for _, p := range within(p) {
			if l, e := model.Pairs(facts, p); len(l) != 0 || e != api.ErrArg {
				t.Errorf("path %d: Pairs: %s, %d", i, text(l), e)
			}
			if l, e := model.Rows(facts, ask("x", atom("?x", wd("p"), "?y"), atom("?y", p, "a"))); len(l) != 0 || e != api.ErrArg {
				t.Errorf("path %d: Rows: %s, %d", i, text(l), e)
			}
		}
	}
}

// R1: queries of broad lists and long texts.
func TestQueriesHandedIn(t *testing.T) {
	facts := some("a p b, b p a")
	long := strings.Repeat("x", 1<<24)
	for i, q := range []api.Query{
		{},
		{Vars: make([]string, 3000000), Atoms: whole().Atoms},
		{Vars: []string{"x"}, Atoms: make([]api.Atom, 1000000)},
		{Vars: []string{"x"}, Atoms: slices.Repeat(whole().Atoms, 100000)},
		{Vars: []string{long}, Atoms: []api.Atom{atom("?"+long, wd("p"), "a")}},
		ask("x", atom("?x", wd("p"), long)),
		ask("x", atom("?x", wd(long), "a")),
		{Vars: []string{""}, Atoms: []api.Atom{{S: api.Term{Var: true}, Path: wd("p"), O: api.Term{Var: true}}}},
	} {
		if l, e := model.Rows(facts, q); len(l) != 0 || e != api.ErrArg {
			t.Errorf("query %d: %s, %d", i, text(l), e)
		}
	}
}

// R1: facts of any texts, and the zero values of all arguments.
func TestFactsHandedIn(t *testing.T) {
	if l := model.Vertices([]api.Triple{{}}); !slices.Equal(l, []string{""}) {
		t.Errorf("Vertices of the empty fact: %q", l)
	}
	long := strings.Repeat("A", 1<<20)
	facts := []api.Triple{{}, {S: "\xff", P: "p", O: ""}, {S: "", P: "p", O: long}, {S: long, P: "", O: "\x00"}, {S: "a b", P: "p", O: "é"}, {S: "é", P: "P", O: "a"}}
	if l := model.Vertices(facts); !slices.Equal(l, []string{"", "\x00", long, "a", "a b", "é", "\xff"}) {
		t.Errorf("Vertices: %.100q", l)
	}
	for _, p := range []api.Path{wd("p"), star(wd("p")), seq(wd("p"), wd("p")), maybe(wd("q")), plus(alt(wd("p"), wd("q")))} {
		want, _ := pairsBy(facts, p)
		if l, e := model.Pairs(facts, p); !sameRows(l, want) || e != api.OK {
			t.Errorf("Pairs(%v): %.300q, %d", p, l, e)
		}
		q := ask("y x", atom("?x", p, "?y"), atom("?y", star(p), "?z"))
		want, _ = rowsBy(facts, q)
		if l, e := model.Rows(facts, q); !sameRows(l, want) || e != api.OK {
			t.Errorf("Rows(%v): %.300q, %d", q, l, e)
		}
	}
	if l, e := model.Pairs(nil, api.Path{}); l != nil || e != api.ErrArg {
		t.Errorf("Pairs of nothing: %v, %d", l, e)
	}
	if l, e := model.Rows(nil, api.Query{}); l != nil || e != api.ErrArg {
		t.Errorf("Rows of nothing: %v, %d", l, e)
	}
	if l := model.Vertices(nil); len(l) != 0 {
		t.Errorf("Vertices of nothing: %v", l)
	}
}

// R1: many facts; each call ends soon.
func TestManyFacts(t *testing.T) {
	var facts []api.Triple
	for i := range 100000 {
		facts = append(facts, api.Triple{S: v(2 * i), P: "p" + strconv.Itoa(i%10), O: v(2*i + 1)})
	}
	if l := model.Vertices(facts); len(l) != 200000 || l[199999] != v(199999) {
		t.Errorf("%d vertices", len(l))
	}
	if l, e := model.Pairs(facts, plus(wd("p7"))); len(l) != 10000 || e != api.OK || !slices.Equal(l[9999], []string{v(199994), v(199995)}) {
		t.Errorf("%d pairs, %d", len(l), e)
	}
	many(t, facts, "select ?x where { v000000 p0 ?x }", 1)
	many(t, facts, "select ?x where { ?x p3+ v000007 . ?a p4 ?b . ?c p5* ?d }", 1)
	many(t, facts, "select ?x where { ?x p3 ?y . ?y p3 ?z }", 0)
	many(t, facts, "select ?x ?y where { ?x p3 ?y }", -1)
}

// R1: queries of whose choices there are far too many to be tried, and of rows few, none, or too many.
func TestHardQueries(t *testing.T) {
	round := ring(2000, "p")
	for asked, want := range map[string]int{
		"select ?a ?b ?c ?d ?e ?f where { ?a p* ?b . ?c p* ?d . ?e p* ?f }":                                     -1,
		"select ?f ?a where { ?a p* ?b . ?b p* ?c . ?c p* ?d . ?d p* ?e . ?e p* ?f . ?f p* ?a }":                -1,
		"select ?a where { ?a p* ?b . ?b p* ?c . ?c p* ?d . ?d p* ?e . ?e p* ?f . ?f p* v000000 }":              2000,
		"select ?a where { ?a p ?b . ?c p* ?d . ?e p* ?f . ?b p ?a }":                                           0,
		"select ?a ?c ?e where { ?a p ?b . ?c p ?d . ?e p ?f . ?f p/p ?e }":                                     0,
		"select ?d ?c ?b ?a where { ?a p ?b . ?b p ?c . ?c p ?d }":                                              2000,
		"select ?a ?d where { ?a p/p ?b . ?b p/p ?c . ?c p/p ?d }":                                              2000,
		"select ?a ?b ?c ?d where { ?a p ?b . ?b p ?c . ?c p ?d . ?d p ?a . ?a p ?c . ?b p ?d }":                0,
		"select ?a where { ?a (p|p|p|p|p|p|p|p|p|p|p|p|p|p|p|p|p|p|p|p|p|p|p|p)* ?b . ?b p* v000000 }":          2000,
		"select ?a where { ?a p ?b . ?a p/p ?b . ?c p* ?d }":                                                    0,
		"select ?a where { v000000 p+ ?a . ?a p+ ?b . ?b p+ ?a . ?a p v000007 . ?b p ?c . ?c p+ ?d }":           1,
		"select ?x where { ?x p* ?x }":                                                                          2000,
		"select ?x where { ?x p+ ?x . ?x q ?y }":                                                                0,
		"select ?x where { ?x p ?x . ?a p* ?b . ?c p* ?d }":                                                     0,
		"select ?a ?b where { ?a p* ?b . ?b q* ?a }":                                                            2000,
		"select ?a ?b where { ?a p ?b . ?b p* ?a . ?c p* ?c }":                                                  2000,
		"select ?a ?b where { ?a p ?b . ?c (p/p)* ?d . ?d p ?c . ?e p+ ?f . v000001 (p/p)+ v000000 . ?d p* ?f}": 0,
	} {
		many(t, round, asked, want)
	}
	// Parts of a query that share no variable, each of which fits but two by two, the last one not at all.
	var facts []api.Triple
	for i := range 200 {
		facts = append(facts, api.Triple{S: v(i), P: "p", O: v(i + 200)}, api.Triple{S: v(i), P: "q", O: v(i + 200)})
		facts = append(facts, api.Triple{S: v(i), P: "r", O: v(i + 200)}, api.Triple{S: v(i), P: "s", O: v((i+1)%200 + 200)})
	}
	many(t, facts, "select ?a ?c ?e where { ?a p ?b . ?a q ?b . ?c p ?d . ?c q ?d . ?e r ?f . ?e s ?f }", 0)
	many(t, facts, "select ?a ?c ?e where { ?e r ?f . ?e s ?f . ?a p ?b . ?a q ?b . ?c p ?d . ?c q ?d }", 0)
	many(t, facts, "select ?a where { ?a p ?b . ?a q ?b . ?c p ?d . ?c q ?d . ?e r ?f . ?e s ?f }", 0)
	many(t, facts, "select ?a where { ?a p ?b . ?a q ?b . ?c p ?d . ?c q ?d . ?e r ?f . ?e p ?f }", 200)
	many(t, facts, "select ?a ?c ?e where { ?a p ?b . ?a q ?b . ?c p ?d . ?c q ?d . ?e r ?f . ?e p ?f }", -1)
	// Facts that lead on and never back.
	line := round[:len(round)-1]
	many(t, line, "select ?a where { ?a p ?b . ?b p ?a }", 0)
	many(t, line, "select ?a where { ?a p+ ?b . ?b p+ ?a }", 0)
	many(t, line, "select ?a ?b where { ?a p* ?b . ?b p* ?a }", 2000)
}

// roomy is a list with something in the room behind its end.
func roomy[T any](l []T, behind T) []T {
	out := append(slices.Clone(l), behind, behind, behind)
	return out[:len(l)]
}

// spacious is a path whose lists have something behind their ends.
func spacious(p api.Path) api.Path {
	kids := make([]api.Path, len(p.Kids))
	for i, kid := range p.Kids {
		kids[i] = spacious(kid)
	}
	p.Kids = roomy(kids, wd("behind"))
	return p
}

// samePath tells whether two paths are the same, and the room behind the lists of the second as it was.
func samePath(a, b api.Path) bool {
	n := len(b.Kids)
	for _, p := range b.Kids[n : n+3] {
		if p.Kind != api.PathWord || p.Word != "behind" || p.Kids != nil {
			return false
		}
	}
	return a.Kind == b.Kind && a.Word == b.Word && slices.EqualFunc(a.Kids, b.Kids, samePath)
}

// R3: nothing that is handed in is changed, and nothing behind a list's end is read or changed.
func TestHandedIn(t *testing.T) {
	r := rand.New(rand.NewSource(119))
	stray := api.Triple{S: "stray", P: "p", O: "a"}
	for range 1500 {
		q, facts := chanceQuery(r, 4), chanceFacts(r, 6)
		room := api.Query{Vars: roomy(q.Vars, "x")}
		for _, a := range q.Atoms {
			room.Atoms = append(room.Atoms, api.Atom{S: a.S, Path: spacious(a.Path), O: a.O})
		}
		room.Atoms = roomy(room.Atoms, atom("stray", wd("p"), "?stray"))
		roomFacts := roomy(facts, stray)
		if l := model.Vertices(roomFacts); !slices.Equal(l, verticesBy(facts)) {
			t.Fatalf("Vertices(%v): %v", facts, l)
		}
		rows, e := model.Rows(roomFacts, room)
		if want, wantE := rowsBy(facts, q); !sameRows(rows, want) || e != wantE {
			t.Fatalf("Rows(%v, %v): %s, %d", facts, q, text(rows), e)
		}
		for _, a := range room.Atoms {
			pairs, e := model.Pairs(roomFacts, a.Path)
			if want, wantE := pairsBy(facts, a.Path); !sameRows(pairs, want) || e != wantE {
				t.Fatalf("Pairs(%v, %v): %s, %d", facts, a.Path, text(pairs), e)
			}
		}
		if !slices.Equal(roomFacts[:len(facts)+3], append(slices.Clone(facts), stray, stray, stray)) {
			t.Fatalf("facts were changed: %v", roomFacts[:len(facts)+3])
		}
		if !slices.Equal(room.Vars[:len(q.Vars)+3], append(slices.Clone(q.Vars), "x", "x", "x")) {
			t.Fatalf("Vars were changed: %v", room.Vars)
		}
		for i, a := range room.Atoms {
			if a.S != q.Atoms[i].S || a.O != q.Atoms[i].O || !samePath(q.Atoms[i].Path, a.Path) {
				t.Fatalf("an atom was changed: %v", a)
			}
		}
		for _, a := range room.Atoms[len(q.Atoms) : len(q.Atoms)+3] {
			if a.S.Name != "stray" || a.O.Name != "stray" || a.Path.Word != "p" {
				t.Fatalf("what lies behind the atoms was changed: %v", a)
			}
		}
	}
}

// inside tells whether a text is a piece of another one's memory.
func inside(piece, s string) bool {
	if piece == "" || s == "" {
		return false
	}
	from, at := uintptr(unsafe.Pointer(unsafe.StringData(s))), uintptr(unsafe.Pointer(unsafe.StringData(piece)))
	return at >= from && at < from+uintptr(len(s))
}

// R3: the words of an answer are no pieces of the texts that were handed in.
func TestPieces(t *testing.T) {
	whole := strings.Clone("ann p bob, bob p cat, cat p ann, dan p dan")
	facts := some(whole)
	asked := strings.Clone("select ?x ?y where { ann p+ ?x . ?x p* ?y }")
	q := parsed(t, asked)
	words := model.Vertices(facts)
	pairs, _ := model.Pairs(facts, q.Atoms[0].Path)
	rows, _ := model.Rows(facts, q)
	for _, l := range slices.Concat(pairs, rows) {
		words = append(words, l...)
	}
	for _, w := range words {
		if inside(w, whole) || inside(w, asked) || inside(w, q.Atoms[0].S.Name) {
			t.Errorf("%q is a piece of what was handed in", w)
		}
	}
}

// spoil changes all words of rows, with the room behind their ends, and the rows themselves.
func spoil(rows [][]string) {
	for _, row := range rows {
		for i := range row[:cap(row)] {
			row[:cap(row)][i] = "spoilt"
		}
	}
	for i := range rows[:cap(rows)] {
		rows[:cap(rows)][i] = []string{"spoilt"}
	}
}

// R3: an answer's lists are new memory: they share none with another answer.
func TestMemory(t *testing.T) {
	facts := some(family)
	q := parsed(t, "select ?y ?x where { ?x (knows|likes)+ ?y }")
	p := q.Atoms[0].Path
	wantRows, _ := rowsBy(facts, q)
	wantPairs, _ := pairsBy(facts, p)
	rows, _ := model.Rows(facts, q)
	pairs, _ := model.Pairs(facts, p)
	words := model.Vertices(facts)
	for range 3 {
		more, e := model.Rows(facts, q)
		if !sameRows(more, wantRows) || e != api.OK {
			t.Errorf("Rows: %s, %d", text(more), e)
		}
		others, e := model.Pairs(facts, p)
		if !sameRows(others, wantPairs) || e != api.OK {
			t.Errorf("Pairs: %s, %d", text(others), e)
		}
		has(t, facts, "ann bob cat dan eve")
		spoil(more)
		spoil(others)
		spoil([][]string{model.Vertices(facts)})
	}
	if !sameRows(rows, wantRows) || !sameRows(pairs, wantPairs) || !slices.Equal(words, verticesBy(facts)) {
		t.Error("answers share memory")
	}
	if !slices.Equal(facts, some(family)) {
		t.Errorf("the facts are %v", facts)
	}
}

// R3: no two lists of one answer share memory: what is done to one, and behind its end, is in no other.
func TestListsApart(t *testing.T) {
	facts := some(family)
	q := parsed(t, "select ?y ?x where { ?x (knows|likes)+ ?y }")
	for _, answer := range []func() [][]string{
		func() [][]string { l, _ := model.Rows(facts, q); return l },
		func() [][]string { l, _ := model.Pairs(facts, q.Atoms[0].Path); return l },
	} {
		want := answer()
		for i := range want {
			l := answer()
			for k := range l[i][:cap(l[i])] {
				l[i][:cap(l[i])][k] = "spoilt"
			}
			_ = append(l[i], "spoilt")
			for k, row := range l {
				if k != i && !slices.Equal(row, want[k]) {
					t.Errorf("the row %d shares memory with the row %d: %v", k, i, row)
				}
			}
		}
	}
}

// R3: nil and the empty list are the same.
func TestNilAndEmpty(t *testing.T) {
	q := parsed(t, "select ?x where { a p*/q ?x }")
	other := parsed(t, "select ?x where { a p*/q ?x }")
	kids := other.Atoms[0].Path.Kids
	kids[0].Kids[0].Kids, kids[1].Kids = []api.Path{}, []api.Path{}
	facts := some("a p b, b q c")
	for _, q := range []api.Query{q, other} {
		if l, e := model.Rows(facts, q); text(l) != "c" || e != api.OK {
			t.Errorf("%s, %d", text(l), e)
		}
		if l, e := model.Pairs(facts, q.Atoms[0].Path); text(l) != "a c;b c" || e != api.OK {
			t.Errorf("%s, %d", text(l), e)
		}
	}
}

// R4: what is answered hangs on the arguments alone, whatever was asked ahead.
func TestSideBySide(t *testing.T) {
	r := rand.New(rand.NewSource(120))
	type asked struct {
		facts []api.Triple
		q     api.Query
		rows  [][]string
		e     api.Errno
	}
	var l []asked
	for range 200 {
		x := asked{facts: chanceFacts(r, 8), q: chanceQuery(r, 3)}
		if r.Intn(4) == 0 {
			x.q.Vars = append(x.q.Vars, "none")
		}
		x.rows, x.e = model.Rows(x.facts, x.q)
		l = append(l, x)
	}
	for range 3000 {
		x := l[r.Intn(len(l))]
		if rows, e := model.Rows(x.facts, x.q); !sameRows(rows, x.rows) || e != x.e {
			t.Fatalf("Rows(%v, %v): %s, %d, and ahead %s, %d", x.facts, x.q, text(rows), e, text(x.rows), x.e)
		}
	}
}

// R4: many at once are answered as one alone.
func TestAtOnce(t *testing.T) {
	facts := some(knot)
	for _, k := range kinds {
		q := ask("y x", atom("?x", pathOf(t, k.path), "?y"))
		want, _ := rowsBy(facts, q)
		t.Run(k.path, func(t *testing.T) {
			t.Parallel()
			for range 30 {
				leads(t, facts, k.path, k.want)
				if l, e := model.Rows(facts, q); !sameRows(l, want) || e != api.OK {
					t.Errorf("%s: %s, %d", k.path, text(l), e)
				}
				has(t, facts, "a b c d e")
			}
		})
	}
}
