package model_test

import (
	"fmt"
	"math"
	"slices"
	"strings"
	"testing"

	"sinew/api"
	"sinew/model"
	"sinew/query"
)

// Paths, spelt out.

func wd(word string) api.Path { return api.Path{Kind: api.PathWord, Word: word} }

func seq(kids ...api.Path) api.Path { return api.Path{Kind: api.PathSeq, Kids: kids} }

func alt(kids ...api.Path) api.Path { return api.Path{Kind: api.PathAlt, Kids: kids} }

func star(kid api.Path) api.Path { return api.Path{Kind: api.PathStar, Kids: []api.Path{kid}} }

func plus(kid api.Path) api.Path { return api.Path{Kind: api.PathPlus, Kids: []api.Path{kid}} }

func maybe(kid api.Path) api.Path { return api.Path{Kind: api.PathMaybe, Kids: []api.Path{kid}} }

// parsed is the query of a text.
func parsed(t testing.TB, s string) api.Query {
	t.Helper()
	r, _, e := query.Parse(s)
	if e != api.OK || r.Kind != api.AskRows {
		t.Fatalf("%q is no query: %d", s, e)
	}
	return r.Query
}

// pathOf is the path of a text.
func pathOf(t testing.TB, s string) api.Path {
	t.Helper()
	return parsed(t, "select ?x where { ?x "+s+" ?x }").Atoms[0].Path
}

// some are facts of a text: three words each, divided by commas.
func some(s string) (facts []api.Triple) {
	for _, f := range strings.Split(s, ",") {
		if l := strings.Fields(f); len(l) == 3 {
			facts = append(facts, api.Triple{S: l[0], P: l[1], O: l[2]})
		} else if len(l) != 0 {
			panic("no fact: " + f)
		}
	}
	return facts
}

// text are rows with semicolons between, their words with blanks.
func text(rows [][]string) string {
	var l []string
	for _, row := range rows {
		l = append(l, strings.Join(row, " "))
	}
	return strings.Join(l, ";")
}

// sameRows tells whether two lists of rows are the same; nil and the empty list are.
func sameRows(a, b [][]string) bool {
	return slices.EqualFunc(a, b, slices.Equal)
}

// has must be what Vertices answers.
func has(t *testing.T, facts []api.Triple, want string) {
	t.Helper()
	if l := model.Vertices(facts); !slices.Equal(l, strings.Fields(want)) {
		t.Errorf("Vertices(%.300v): %v, want %s", facts, l, want)
	}
}

// leads must be what Pairs answers of a path's text.
func leads(t *testing.T, facts []api.Triple, path, want string) {
	t.Helper()
	p := pathOf(t, path)
	l, e := model.Pairs(facts, p)
	if text(l) != want || e != api.OK {
		t.Errorf("Pairs(%.300v, %s): %s, %d, want %s", facts, path, text(l), e, want)
	}
	if by, _ := pairsBy(facts, p); text(by) != want {
		t.Errorf("%.300v, %s: the plain reading is %s, not %s", facts, path, text(by), want)
	}
}

// answers must be what Rows answers of a query's text.
func answers(t *testing.T, facts []api.Triple, asked, want string) {
	t.Helper()
	l, e := model.Rows(facts, parsed(t, asked))
	if text(l) != want || e != api.OK {
		t.Errorf("Rows(%.300v, %s): %s, %d, want %s", facts, asked, text(l), e, want)
	}
}

// many must be how many rows Rows answers of a query's text; -1: too many.
func many(t *testing.T, facts []api.Triple, asked string, want int) {
	t.Helper()
	l, e := model.Rows(facts, parsed(t, asked))
	if want >= 0 && (len(l) != want || e != api.OK) || want < 0 && (len(l) != 0 || e != api.ErrMany) {
		t.Errorf("Rows of %d facts, %s: %d rows, %d, want %d", len(facts), asked, len(l), e, want)
	}
	if !slices.IsSortedFunc(l, slices.Compare) {
		t.Errorf("%s: the rows do not rise", asked)
	}
}

// v is a vertex's word, by its number; they rise as the numbers do.
func v(i int) string { return fmt.Sprintf("v%06d", i) }

// ring are facts of one predicate that lead round over so many vertices.
func ring(n int, p string) (facts []api.Triple) {
	for i := range n {
		facts = append(facts, api.Triple{S: v(i), P: p, O: v((i + 1) % n)})
	}
	return facts
}

// The chapter's example, and the document's fourth.
func TestExample(t *testing.T) {
	facts := some("a p b, b p c")
	answers(t, facts, "select ?x where { a p+ ?x }", "b;c")
	answers(t, facts, "select ?x where { ?x p* ?x }", "a;b;c")
	answers(t, some("ann p bob, bob p cat, dan p ann, bob q eve"), "select ?x where { ann p+ ?x }", "bob;cat")
}

// Mo1: Vertices of facts, each once, rising by bytes.
func TestVertices(t *testing.T) {
	has(t, nil, "")
	has(t, []api.Triple{}, "")
	has(t, some("a p a"), "a")
	has(t, some("a p b"), "a b")
	has(t, some("b p a"), "a b")
	has(t, some("a p b, a p b"), "a b")
	has(t, some("a p b, a p b, b p a, a q b, b q a, a p b"), "a b")
	has(t, some("p p p"), "p")
	has(t, some("a p b, b q c"), "a b c")
	has(t, some("d p c, b p a, d p a, c p b"), "a b c d")
	has(t, some("c p z, b p y, a p x"), "a b c x y z")
	// By bytes: a blank part of a word is ahead of the word, - ahead of digits, these ahead of :, this ahead of letters.
	has(t, some("b p ab, aa p a:, a0 p a-, a p :, 9 p 0, - p a9"), "- 0 9 : a a- a0 a9 a: aa ab b")
	has(t, some("v10 p v9, v2 p v1, v100 p v"), "v v1 v10 v100 v2 v9")
	long := strings.Repeat("z", 16)
	has(t, some(long+" p "+long[:15]), long[:15]+" "+long)
}

// Mo1: Vertices of the same facts in all orders.
func TestVerticesInAnyOrder(t *testing.T) {
	facts := some("c p a, a p b, d q d, b r c, a p b")
	orders(facts, func(l []api.Triple) { has(t, l, "a b c d") })
}

// orders tells all orders of a list.
func orders[T any](l []T, tell func([]T)) {
	l = slices.Clone(l)
	var from func(at int)
	from = func(at int) {
		if at == len(l) {
			tell(slices.Clone(l))
			return
		}
		for i := at; i < len(l); i++ {
			l[at], l[i] = l[i], l[at]
			from(at + 1)
			l[at], l[i] = l[i], l[at]
		}
	}
	from(0)
}

// knot are facts with a fork, a ring of two and a vertex by itself.
const knot = "a p b, b p c, b q d, d p b, e r e"

// kinds are paths, and their pairs over the knot.
var kinds = []struct{ path, want string }{
	// Each kind alone.
	{"p", "a b;b c;d b"},
	{"q", "b d"},
	{"r", "e e"},
	{"p/q", "a d;d d"},
	{"q/p", "b b"},
	{"p/p", "a c;d c"},
	{"p/q/p", "a b;d b"},
	{"p/q/p/p", "a c;d c"},
	{"p|q", "a b;b c;b d;d b"},
	{"p|q|r", "a b;b c;b d;d b;e e"},
	{"p|p", "a b;b c;d b"},
	{"p*", "a a;a b;a c;b b;b c;c c;d b;d c;d d;e e"},
	{"q*", "a a;b b;b d;c c;d d;e e"},
	{"r*", "a a;b b;c c;d d;e e"},
	{"p+", "a b;a c;b c;d b;d c"},
	{"q+", "b d"},
	{"r+", "e e"},
	{"p?", "a a;a b;b b;b c;c c;d b;d d;e e"},
	{"q?", "a a;b b;b d;c c;d d;e e"},
	// Each within PathSeq.
	{"(p/q)/p", "a b;d b"},
	{"p/(q/p)", "a b;d b"},
	{"(p|q)/p", "a c;b b;d c"},
	{"p/(q|p)", "a c;a d;d c;d d"},
	{"p*/q", "a d;b d;d d"},
	{"p/q*", "a b;a d;b c;d b;d d"},
	{"p+/q", "a d;d d"},
	{"q/p+", "b b;b c"},
	{"p?/q", "a d;b d;d d"},
	{"q?/p", "a b;b b;b c;d b"},
	// Each within PathAlt.
	{"(p/q)|r", "a d;d d;e e"},
	{"r|(p/q)", "a d;d d;e e"},
	{"(p|q)|r", "a b;b c;b d;d b;e e"},
	{"r|(q|p)", "a b;b c;b d;d b;e e"},
	{"p*|q", "a a;a b;a c;b b;b c;b d;c c;d b;d c;d d;e e"},
	{"p|q*", "a a;a b;b b;b c;b d;c c;d b;d d;e e"},
	{"p+|q", "a b;a c;b c;b d;d b;d c"},
	{"q|p+", "a b;a c;b c;b d;d b;d c"},
	{"p?|q", "a a;a b;b b;b c;b d;c c;d b;d d;e e"},
	{"q|r?", "a a;b b;b d;c c;d d;e e"},
	// Each within PathStar, PathPlus and PathMaybe.
	{"(p/q)*", "a a;a d;b b;c c;d d;e e"},
	{"(p/q)+", "a d;d d"},
	{"(p/q)?", "a a;a d;b b;c c;d d;e e"},
	{"(p|q)*", "a a;a b;a c;a d;b b;b c;b d;c c;d b;d c;d d;e e"},
	{"(p|q)+", "a b;a c;a d;b b;b c;b d;d b;d c;d d"},
	{"(p|q)?", "a a;a b;b b;b c;b d;c c;d b;d d;e e"},
	{"p**", "a a;a b;a c;b b;b c;c c;d b;d c;d d;e e"},
	{"p+*", "a a;a b;a c;b b;b c;c c;d b;d c;d d;e e"},
	{"p?*", "a a;a b;a c;b b;b c;c c;d b;d c;d d;e e"},
	{"p*+", "a a;a b;a c;b b;b c;c c;d b;d c;d d;e e"},
	{"p++", "a b;a c;b c;d b;d c"},
	{"p?+", "a a;a b;a c;b b;b c;c c;d b;d c;d d;e e"},
	{"p*?", "a a;a b;a c;b b;b c;c c;d b;d c;d d;e e"},
	{"p+?", "a a;a b;a c;b b;b c;c c;d b;d c;d d;e e"},
	{"p??", "a a;a b;b b;b c;c c;d b;d d;e e"},
	// Several, one within another.
	{"(p/(q|r)*)+", "a b;a c;a d;b c;d b;d c;d d"},
	{"((p|r)/q?)+/p", "a b;a c;d b;d c"},
	{"(q/p)*/q", "b d"},
	{"(p?/q?)*/r", "e e"},
}

// Mo1: the pairs of each kind of path, and of each within each other one.
func TestKinds(t *testing.T) {
	facts := some(knot)
	for _, k := range kinds {
		leads(t, facts, k.path, k.want)
	}
}

// Mo1: facts are a set: in whatever order they come, and the same ones twice.
func TestSet(t *testing.T) {
	for _, k := range kinds {
		n := 0
		orders(some(knot), func(facts []api.Triple) {
			if n++; n%7 == 0 {
				leads(t, append(facts, facts[:n%5]...), k.path, k.want)
			}
		})
	}
}

// Mo1: a path leads from each vertex to itself just where nothing at all will do, if facts lead nowhere back.
func TestItself(t *testing.T) {
	facts := some("c p b, b q a, c r a, d p a")
	for _, s := range []string{"p", "p?", "p*", "p+", "p?+", "p+?", "p*+", "p/q", "p?/q", "p/q?", "p?/q?", "p*/q?/r*", "p*/q?/r+", "p*/q/r*", "p|q", "p?|q", "p|q*", "p|q|r?", "p/q?|r", "(p?/q)*", "(p?/q)+", "(p?/q?)+", "(p|q)?/r?", "z", "z?", "z*", "z+"} {
		p := pathOf(t, s)
		l, e := model.Pairs(facts, p)
		if e != api.OK {
			t.Errorf("%s: %d", s, e)
		}
		for _, v := range []string{"a", "b", "c", "d"} {
			there := slices.ContainsFunc(l, func(x []string) bool { return slices.Equal(x, []string{v, v}) })
			if there != willDo(p, nil) {
				t.Errorf("%s leads from %s to itself: %t", s, v, there)
			}
		}
	}
	leads(t, facts, "z?", "a a;b b;c c;d d")
	leads(t, facts, "z*/y?", "a a;b b;c c;d d")
	leads(t, facts, "q/z*", "b a")
}

// Mo1: facts in a ring.
func TestRing(t *testing.T) {
	one := some("a p a")
	for _, s := range []string{"p", "p+", "p*", "p?", "p/p", "p/p/p*", "p|q", "(p/p)+"} {
		leads(t, one, s, "a a")
	}
	leads(t, one, "p/q", "")
	leads(t, one, "q", "")
	leads(t, one, "q*", "a a")
	three := some("a p b, b p c, c p a")
	all := "a a;a b;a c;b a;b b;b c;c a;c b;c c"
	for s, want := range map[string]string{
		"p": "a b;b c;c a", "p/p": "a c;b a;c b", "p/p/p": "a a;b b;c c", "p/p/p/p": "a b;b c;c a",
		"p+": all, "p*": all, "(p/p)*": all, "(p/p)+": all, "(p/p/p)*": "a a;b b;c c", "(p/p/p)+": "a a;b b;c c", "p/(p/p/p)*": "a b;b c;c a",
		"(p/p)?": "a a;a c;b a;b b;c b;c c", "p|p/p": "a b;a c;b a;b c;c a;c b",
	} {
		leads(t, three, s, want)
	}
	four := some("a p b, b q c, c p d, d q a")
	leads(t, four, "(p/q)*", "a a;a c;b b;c a;c c;d d")
	leads(t, four, "(p/q)+", "a a;a c;c a;c c")
	leads(t, four, "(p/q)+/p", "a b;a d;c b;c d")
	leads(t, four, "p+", "a b;c d")
	leads(t, four, "(q|p)/(q|p)", "a c;b d;c a;d b")
	// Two rings with a vertex in common: of 2 and of 3 facts.
	two := some("a p b, b p a, a p c, c p d, d p a")
	leads(t, two, "p/p/p/p/p/p", "a a;a b;a c;a d;b a;b b;b c;b d;c a;c b;c c;c d;d a;d b;d c;d d")
	leads(t, two, "p/p", "a a;a d;b b;b c;c a;d b;d c")
	for n := 1; n < 30; n++ {
		for k := 1; k < 5; k++ {
			p := plus(seq(slices.Repeat([]api.Path{wd("p")}, k+1)...))
			l, e := model.Pairs(ring(n, "p"), p)
			if by, _ := pairsBy(ring(n, "p"), p); !sameRows(l, by) || e != api.OK {
				t.Errorf("a ring of %d, %d at a time: %s", n, k+1, text(l))
			}
		}
	}
}

// Mo1: facts that fork, and meet again: a pair is there once.
func TestFork(t *testing.T) {
	facts := some("a p b, a p c, a q d, b p e, c p e, d p e, a r e")
	leads(t, facts, "p/p", "a e")
	leads(t, facts, "p", "a b;a c;b e;c e;d e")
	leads(t, facts, "p+", "a b;a c;a e;b e;c e;d e")
	leads(t, facts, "p/p|q/p|r", "a e")
	leads(t, facts, "(p|q)/p", "a e")
	leads(t, facts, "(p|q|r)+", "a b;a c;a d;a e;b e;c e;d e")
	leads(t, facts, "p/p?", "a b;a c;a e;b e;c e;d e")
	leads(t, facts, "q/p*", "a d;a e")
	// Twenty forks behind one another: far more ways than pairs.
	var many []api.Triple
	for i := range 20 {
		many = append(many, api.Triple{S: v(3 * i), P: "p", O: v(3*i + 1)}, api.Triple{S: v(3 * i), P: "p", O: v(3*i + 2)})
		many = append(many, api.Triple{S: v(3*i + 1), P: "p", O: v(3*i + 3)}, api.Triple{S: v(3*i + 2), P: "p", O: v(3*i + 3)})
	}
	for _, p := range []api.Path{plus(wd("p")), star(seq(wd("p"), wd("p"))), seq(slices.Repeat([]api.Path{wd("p")}, 24)...)} {
		l, e := model.Pairs(many, p)
		if by, _ := pairsBy(many, p); !sameRows(l, by) || e != api.OK {
			t.Errorf("%v: %s", p, text(l))
		}
	}
}

// Mo1: predicates that no fact has, words that are no vertices, and no facts at all.
func TestNoPairs(t *testing.T) {
	facts := some("a p b, b q c")
	leads(t, facts, "z", "")
	leads(t, facts, "p/z", "")
	leads(t, facts, "z/p", "")
	leads(t, facts, "p|z", "a b")
	leads(t, facts, "z|p", "a b")
	leads(t, facts, "z*", "a a;b b;c c")
	leads(t, facts, "z+", "")
	leads(t, facts, "p/z*/q", "a c")
	leads(t, facts, "p/z+/q", "")
	// A vertex that stands as a predicate in the path, and predicates that are no vertices.
	leads(t, facts, "a", "")
	leads(t, facts, "a?", "a a;b b;c c")
	leads(t, facts, "(p|q)*", "a a;a b;a c;b b;b c;c c")
	// Words that are both.
	leads(t, some("p p q, q q p"), "p", "p q")
	leads(t, some("p p q, q q p"), "p/q", "p p")
	leads(t, some("p p q, q q p"), "(p|q)+", "p p;p q;q p;q q")
	for _, s := range []string{"p", "p/q", "p|q", "p*", "p+", "p?", "(p?/q*)*"} {
		leads(t, nil, s, "")
		leads(t, []api.Triple{}, s, "")
	}
}

// Mo1: pairs rise by bytes, by their first words, then their second ones.
func TestPairsRise(t *testing.T) {
	facts := some("b p a, ab p 9, a p b, a p ab, a p :, - p a-, a- p -, a: p a0, a0 p a:, a p 0, aa p a, : p a")
	leads(t, facts, "p", "- a-;: a;a 0;a :;a ab;a b;a- -;a0 a:;a: a0;aa a;ab 9;b a")
	for _, s := range []string{"p*", "p+", "p/p", "p?"} {
		l, e := model.Pairs(facts, pathOf(t, s))
		if !slices.IsSortedFunc(l, slices.Compare) || len(slices.CompactFunc(slices.Clone(l), slices.Equal)) != len(l) || e != api.OK {
			t.Errorf("%s: %s, %d", s, text(l), e)
		}
		if by, _ := pairsBy(facts, pathOf(t, s)); !sameRows(l, by) {
			t.Errorf("%s: %s, want %s", s, text(l), text(by))
		}
	}
}

// Mo1: more pairs than there may be rows; Pairs has no limit.
func TestManyPairs(t *testing.T) {
	l, e := model.Pairs(ring(100, "p"), star(wd("p")))
	if len(l) != 10000 || e != api.OK {
		t.Fatalf("%d pairs, %d", len(l), e)
	}
	for i, x := range l {
		if !slices.Equal(x, []string{v(i / 100), v(i % 100)}) {
			t.Fatalf("the pair %d is %v", i, x)
		}
	}
}

// noWords are texts that are no words.
var noWords = []string{"", "A", "a b", " ", "a ", "?a", "a.", "ä", "\x00", "a\xff", "_", strings.Repeat("a", 17), strings.Repeat("a", 1000)}

// within are paths that have another one somewhere.
func within(p api.Path) []api.Path {
	a, b := wd("a"), wd("b")
	return []api.Path{p, star(p), plus(p), maybe(p), seq(p, a), seq(a, p), seq(a, p, b), alt(p, a), alt(a, p), alt(a, p, b), star(seq(a, alt(b, p))), maybe(alt(plus(star(p)), a))}
}

// chained is a path of so many words as kids of one kind.
func chained(kind, n int) api.Path {
	return api.Path{Kind: kind, Kids: slices.Repeat([]api.Path{wd("p")}, n)}
}

// nested is a word within so many others of some kinds.
func nested(n int, around ...func(api.Path) api.Path) api.Path {
	p := wd("p")
	for i := range n {
		p = around[i%len(around)](p)
	}
	return p
}

// anyPaths are paths by each rule of layer 9's words: such as may be, and such as may not.
func anyPaths() (l []api.Path) {
	for _, kind := range []int{math.MinInt, -1, 0, 1, 2, 3, 4, 5, 6, 7, 8, 100, math.MaxInt} {
		for _, word := range append([]string{"a", "p"}, noWords...) {
			for kids := range 4 {
				l = append(l, api.Path{Kind: kind, Word: word, Kids: slices.Repeat([]api.Path{wd("a")}, kids)})
			}
		}
	}
	for n := 20; n < 28; n++ {
		l = append(l, chained(api.PathSeq, n), chained(api.PathAlt, n), seq(chained(api.PathAlt, 12), chained(api.PathSeq, n-12)))
	}
	for n := 8; n < 15; n++ {
		l = append(l, nested(n, star), nested(n, plus), nested(n, maybe), nested(n, star, maybe, plus))
		l = append(l, nested(n, func(p api.Path) api.Path { return seq(p, wd("a")) }), nested(n, func(p api.Path) api.Path { return alt(wd("a"), p) }))
	}
	return l
}

// Mo1: paths that may not be, by each rule of layer 9's words.
func TestPathsMayNot(t *testing.T) {
	facts := some("a p b, b p c, c a a")
	may, not := 0, 0
	for _, p := range anyPaths() {
		for _, p := range within(p) {
			want, e := pairsBy(facts, p)
			l, got := model.Pairs(facts, p)
			if !sameRows(l, want) || got != e {
				t.Errorf("Pairs(%.300v): %s, %d, want %s, %d", p, text(l), got, text(want), e)
			}
			if l, e := model.Pairs(nil, p); len(l) != 0 || e != got {
				t.Errorf("Pairs of no facts, %.300v: %s, %d", p, text(l), e)
			}
			if e == api.OK {
				may++
			} else {
				not++
			}
		}
	}
	if may < 300 || not < 8000 {
		t.Errorf("%d may be, %d may not", may, not)
	}
}

// family are the facts of most queries that are spelt out.
const family = "ann knows bob, bob knows cat, cat likes ann, ann likes cat, dan knows dan, eve likes bob"

// Mo1: queries and their rows, spelt out.
func TestRows(t *testing.T) {
	facts := some(family)
	for _, q := range []struct{ asked, want string }{
		// One atom.
		{"select ?x ?y where { ?x knows ?y }", "ann bob;bob cat;dan dan"},
		{"select ?x where { ?x knows ?y }", "ann;bob;dan"},
		{"select ?y where { ?x knows ?y }", "bob;cat;dan"},
		{"select ?y ?x where { ?x knows ?y }", "bob ann;cat bob;dan dan"},
		{"select ?x where { ?x likes ?y }", "ann;cat;eve"},
		{"select ?x ?y where { ?x knows/knows ?y }", "ann cat;dan dan"},
		{"select ?x ?y where { ?x knows+/likes ?y }", "ann ann;bob ann"},
		// Words in place of variables.
		{"select ?x where { ann knows ?x }", "bob"},
		{"select ?x where { ?x knows cat }", "bob"},
		{"select ?x where { ann knows+ ?x }", "bob;cat"},
		{"select ?x where { ann (knows|likes)+ ?x }", "ann;bob;cat"},
		{"select ?x where { ann knows* ?x }", "ann;bob;cat"},
		{"select ?x where { ?x likes bob . ann knows bob }", "eve"},
		{"select ?x where { ?x likes bob . ann knows cat }", ""},
		{"select ?x where { ?x likes bob . ann knows/knows cat }", "eve"},
		{"select ?x where { ?x likes bob . dan knows dan }", "eve"},
		{"select ?x where { ?x likes bob . ann knows ann }", ""},
		{"select ?x where { ?x likes bob . ann (knows|likes)+ ann }", "eve"},
		// Several atoms that share variables.
		{"select ?x ?y ?z where { ?x knows ?y . ?y likes ?z }", "bob cat ann"},
		{"select ?x ?y where { ?x knows ?y . ?y (knows|likes) ?z }", "ann bob;bob cat;dan dan"},
		{"select ?x where { ?x knows ?y . ?x likes ?z }", "ann"},
		{"select ?x ?y where { ?x likes ?z . ?y knows ?z }", "ann bob;eve ann"},
		{"select ?x ?y where { ?x likes ?y . ?y likes ?x }", "ann cat;cat ann"},
		{"select ?x ?y ?z where { ?x knows ?y . ?y knows ?z . ?z likes ?x }", "ann bob cat"},
		{"select ?z ?x where { ?x knows ?y . ?y knows ?z . ?x likes ?z }", "cat ann"},
		{"select ?x ?y where { ?x knows ?y . ?x knows+ ?y }", "ann bob;bob cat;dan dan"},
		{"select ?x ?y where { ?x knows ?y . ?x likes ?y }", ""},
		{"select ?x ?y where { ?x knows ?y . ?x knows ?y }", "ann bob;bob cat;dan dan"},
		// Atoms that share none.
		{"select ?x ?y where { ?x likes bob . ann knows+ ?y }", "eve bob;eve cat"},
		{"select ?y ?x where { ?x likes bob . ann knows+ ?y }", "bob eve;cat eve"},
		{"select ?x where { ?x likes bob . ?y knows ?z }", "eve"},
		{"select ?x where { ?x likes bob . ?y hates ?z }", ""},
		{"select ?x ?a where { ?x likes ?y . ?a knows ?a }", "ann dan;cat dan;eve dan"},
		// A variable that is both subject and object.
		{"select ?x where { ?x knows ?x }", "dan"},
		{"select ?x where { ?x likes ?x }", ""},
		{"select ?x where { ?x likes/likes ?x }", "ann;cat"},
		{"select ?x where { ?x knows/knows/likes ?x }", "ann"},
		{"select ?x where { ?x (knows|likes)+ ?x }", "ann;bob;cat;dan"},
		{"select ?x where { ?x hates* ?x }", "ann;bob;cat;dan;eve"},
		{"select ?y where { ?x likes/likes ?x . ?x knows ?y }", "bob"},
		{"select ?y where { ?x knows ?x . ?x likes ?y }", ""},
		{"select ?x ?y where { ?x knows ?x . ?y likes/likes ?y }", "dan ann;dan cat"},
		// A word that is no vertex: nothing leads to it, nor from it, not even nothing.
		{"select ?x where { fay knows ?x }", ""},
		{"select ?x where { ?x knows fay }", ""},
		{"select ?x where { fay knows* ?x }", ""},
		{"select ?x where { ?x knows* fay }", ""},
		{"select ?x where { ?x knows ?y . fay knows* fay }", ""},
		{"select ?x where { ?x knows ?y . fay knows? fay }", ""},
		{"select ?x where { ?x knows ?y . knows knows* knows }", ""},
		{"select ?x where { knows knows? ?x }", ""},
		{"select ?x where { ?x knows ?y . ann knows* ann }", "ann;bob;dan"},
		{"select ?x where { ?x knows ?y . ann knows+ ann }", ""},
		{"select ?x where { fay knows ?y . ann knows ?x }", ""},
		// Variables that are called as words are, and words as variables.
		{"select ?ann where { ann knows ?ann }", "bob"},
		{"select ?ann ?bob where { ?ann knows ?bob . ?bob knows cat }", "ann bob"},
		{"select ?knows where { ?knows knows ?knows }", "dan"},
		{"select ?x where { x knows ?x }", ""},
	} {
		answers(t, facts, q.asked, q.want)
		if by, e := rowsBy(facts, parsed(t, q.asked)); text(by) != q.want || e != api.OK {
			t.Errorf("%s: the plain reading is %s, %d, not %s", q.asked, text(by), e, q.want)
		}
	}
}

// Mo1: rows of facts in whatever order, and twice.
func TestRowsOfASet(t *testing.T) {
	n := 0
	orders(some(family), func(facts []api.Triple) {
		if n++; n%5 == 0 {
			facts = append(facts, facts[:n%6]...)
		}
		answers(t, facts, "select ?y ?x where { ?x (knows|likes)/knows ?y . ?z likes ?x }", "bob cat;cat ann")
	})
}

// Mo1: no facts, no rows.
func TestNoFacts(t *testing.T) {
	for _, facts := range [][]api.Triple{nil, {}} {
		answers(t, facts, "select ?x where { ?x p ?x }", "")
		answers(t, facts, "select ?x where { ?x p* ?x }", "")
		answers(t, facts, "select ?x ?y where { ?x p? ?y . a p* a }", "")
		answers(t, facts, "select ?x where { a p* ?x }", "")
	}
}

// Mo1: all orders of Vars, and all that are fewer than the variables.
func TestVars(t *testing.T) {
	facts := some("a p b, a p c, b p c, c q a, b q b, d p a, d q b")
	for asked := range 15 {
		var l []string
		for i, name := range []string{"w", "x", "y", "z"} {
			if (asked+1)>>i&1 == 1 {
				l = append(l, name)
			}
		}
		orders(l, func(vars []string) {
			q := parsed(t, "select ?"+strings.Join(vars, " ?")+" where { ?w p ?x . ?x (p|q) ?y . ?z q ?y }")
			want, _ := rowsBy(facts, q)
			rows, e := model.Rows(facts, q)
			if !sameRows(rows, want) || e != api.OK || len(want) == 0 {
				t.Errorf("%v: %s, %d, want %s", vars, text(rows), e, text(want))
			}
		})
	}
}

// Mo1: rows rise by bytes, by their first words, then their second ones, and so on.
func TestRowsRise(t *testing.T) {
	facts := some("a p b, a p ab, ab p a, b p a, a: p a, a p a:, a p 0, 0 p a, - p a, a p -")
	answers(t, facts, "select ?x ?y where { ?x p ?y }", "- a;0 a;a -;a 0;a a:;a ab;a b;a: a;ab a;b a")
	answers(t, facts, "select ?y ?x where { ?x p ?y }", "- a;0 a;a -;a 0;a a:;a ab;a b;a: a;ab a;b a")
	answers(t, facts, "select ?x where { a p ?x }", "-;0;a:;ab;b")
	// Of two words that are one text if they are written side by side.
	answers(t, some("a p ab, aa p b"), "select ?x ?y where { ?x p ?y }", "a ab;aa b")
	q := parsed(t, "select ?c ?a ?b where { ?a p ?b . ?b p ?c }")
	rows, e := model.Rows(facts, q)
	if want, _ := rowsBy(facts, q); !sameRows(rows, want) || !slices.IsSortedFunc(rows, slices.Compare) || e != api.OK {
		t.Errorf("%s, %d", text(rows), e)
	}
}

// fan are facts of one predicate from one vertex to so many others.
func fan(n int) (facts []api.Triple) {
	for i := range n {
		facts = append(facts, api.Triple{S: "hub", P: "p", O: v(i)})
	}
	return facts
}

// Mo1: as many as 4096 rows, and one more.
func TestManyRows(t *testing.T) {
	for n := 4094; n < 4100; n++ {
		want := n
		if n > 4096 {
			want = -1
		}
		facts := fan(n)
		many(t, facts, "select ?x where { hub p ?x }", want)
		many(t, facts, "select ?x ?y where { ?x p ?y }", want)
		many(t, facts, "select ?y ?x where { ?x p ?y }", want)
		many(t, facts, "select ?y where { ?x p ?y . ?x p ?z }", want)
		many(t, append(facts, facts...), "select ?x where { hub p ?x }", want)
		many(t, facts, "select ?x where { ?x p ?y }", 1)
		// Each vertex leads to itself, and the hub is one more.
		if n == 4096 {
			want = -1
		} else if n < 4096 {
			want = n + 1
		}
		many(t, facts, "select ?x where { ?x q* ?x }", want)
	}
	// 64 times 64, and one more.
	many(t, ring(64, "p"), "select ?x ?y where { ?x p* ?y }", 4096)
	many(t, ring(64, "p"), "select ?x ?y where { ?x p+ ?y }", 4096)
	many(t, append(ring(64, "p"), api.Triple{S: "z", P: "p", O: "z"}), "select ?x ?y where { ?x p+ ?y }", -1)
	many(t, append(ring(64, "p"), api.Triple{S: "a", P: "p", O: "a"}), "select ?x ?y where { ?x p+ ?y }", -1)
	many(t, append(ring(64, "p"), api.Triple{S: "z", P: "q", O: "z"}), "select ?x ?y where { ?x p+ ?y }", 4096)
	many(t, ring(65, "p"), "select ?x ?y where { ?x p* ?y }", -1)
	many(t, ring(64, "p"), "select ?x ?y where { ?x p ?a . ?y p ?b }", 4096)
	many(t, ring(65, "p"), "select ?x ?y where { ?x p ?a . ?y p ?b }", -1)
	// 16 times 16 times 16, 4 to the 6th, and 5 to the 6th.
	many(t, ring(16, "p"), "select ?x ?y ?z where { ?x p ?a . ?y p ?b . ?z p ?c }", 4096)
	many(t, ring(17, "p"), "select ?x ?y ?z where { ?x p ?a . ?y p ?b . ?z p ?c }", -1)
	many(t, ring(4, "p"), "select ?a ?b ?c ?d ?e ?f where { ?a p* ?b . ?c p* ?d . ?e p* ?f }", 4096)
	many(t, ring(5, "p"), "select ?a ?b ?c ?d ?e ?f where { ?a p* ?b . ?c p* ?d . ?e p* ?f }", -1)
	// Two rings of which one row is the one too many.
	facts := append(ring(4096, "p"), some("x p y, y p x")...)
	many(t, facts, "select ?x where { ?x p v000000 }", 1)
	many(t, facts, "select ?x where { ?x p ?y . ?y p ?x }", 2)
	many(t, facts, "select ?x where { v000000 p+ ?x }", 4096)
	many(t, append(facts, some("v000007 p x")...), "select ?x where { v000000 p+ ?x }", -1)
}

// Mo1: choices may be far more than rows; each row is there once.
func TestFewRows(t *testing.T) {
	facts := ring(100, "p")
	many(t, facts, "select ?x where { ?x p* ?y }", 100)
	many(t, facts, "select ?y where { ?x p* ?y }", 100)
	many(t, facts, "select ?x where { ?x p* ?y . ?y p* ?z . ?z p* ?a }", 100)
	many(t, facts, "select ?x where { ?a p* ?b . ?c p* ?d . ?e p ?x }", 100)
	many(t, facts, "select ?x where { v000007 p ?x . ?c p* ?d . ?e p* ?f }", 1)
	many(t, facts, "select ?x ?y where { ?x p ?y . ?c p* ?d . ?e p* ?f }", 100)
	many(t, facts, "select ?x where { ?x q ?y . ?c p* ?d . ?e p* ?f }", 0)
	many(t, facts, "select ?x ?c where { ?x p* ?y . ?c p* ?d . ?d q ?f }", 0)
	many(t, facts, "select ?a ?b ?c ?d where { ?a p* ?b . ?c p* ?d . ?e p ?e }", 0)
}

// Mo1: rings of atoms that fit two by two, and not all together.
func TestHiddenRings(t *testing.T) {
	// A ring of two facts has none of three, but each vertex is led to and leads on.
	two := some("h r a, h r b, a p b, b p a")
	answers(t, two, "select ?w where { ?w r ?x . ?x p ?y . ?y p ?z . ?z p ?x }", "")
	answers(t, two, "select ?w where { ?x p ?y . ?y p ?z . ?z p ?x . ?w r ?x }", "")
	answers(t, two, "select ?w where { ?w r ?x . ?x p ?y . ?y p ?z . ?z p ?v . ?v p ?x }", "h")
	answers(t, two, "select ?w where { ?w r ?v . ?x p ?y . ?y p ?z . ?z p ?x }", "")
	answers(t, two, "select ?w ?v where { ?w r ?v . ?x p ?y . ?z p ?y . ?z p ?x }", "")
	answers(t, two, "select ?w ?v where { ?w r ?v . ?x p ?y . ?y p ?x }", "h a;h b")
	answers(t, two, "select ?w ?v where { ?w r ?v . ?v p ?x . ?x p ?y . ?y p ?v }", "")
	both := append(two, some("i r c, i r d, c p d, d p e, e p c, h r z, z p z")...)
	answers(t, both, "select ?w where { ?w r ?x . ?x p ?y . ?y p ?z . ?z p ?x }", "h;i")
	answers(t, both, "select ?w ?x where { ?w r ?x . ?x p ?y . ?y p ?z . ?z p ?x }", "h z;i c;i d")
	answers(t, both, "select ?w ?x where { ?w r ?x . ?x p ?y . ?y p ?x }", "h a;h b;h z")
	// Two predicates that lead from each vertex, and never to the same one.
	apart := some("a p c, a q d, b p d, b q c, h r a, h r b")
	answers(t, apart, "select ?w where { ?w r ?x . ?x p ?y . ?x q ?y }", "")
	answers(t, apart, "select ?w where { ?w r ?a . ?x p ?y . ?x q ?y }", "")
	answers(t, apart, "select ?w where { ?w r ?x . ?x p ?y . ?x p|q ?y }", "h")
	answers(t, append(apart, some("b q d")...), "select ?w where { ?w r ?x . ?x p ?y . ?x q ?y }", "h")
}

// term is a text as a term: a name, if it begins with a question mark.
func term(s string) api.Term {
	name, is := strings.CutPrefix(s, "?")
	return api.Term{Var: is, Name: name}
}

func atom(s string, p api.Path, o string) api.Atom {
	return api.Atom{S: term(s), Path: p, O: term(o)}
}

// ask is a query, new each time.
func ask(vars string, atoms ...api.Atom) api.Query {
	return api.Query{Vars: strings.Fields(vars), Atoms: atoms}
}

// whole is a query that may be, new each time.
func whole() api.Query {
	return ask("x y", atom("?x", seq(wd("p"), star(alt(wd("q"), wd("r")))), "?y"), atom("ann", plus(maybe(wd("p"))), "?x"))
}

// Mo1: queries whose request may not be, by each rule of layer 9's words.
func TestQueriesMayNot(t *testing.T) {
	facts := some("ann p bob, bob q cat, x p y, a p b")
	answersAs := func(what string, q api.Query, want api.Errno) {
		t.Helper()
		if queryMayBeBy(q) != (want == api.OK) {
			t.Errorf("%s: the plain reading is another one", what)
		}
		l, e := model.Rows(facts, q)
		if e != want || e != api.OK && len(l) != 0 {
			t.Errorf("%s: %s, %d", what, text(l), e)
		}
		if _, e := model.Rows(nil, q); e != want {
			t.Errorf("%s, no facts: %d", what, e)
		}
	}
	changed := func(what string, change func(q *api.Query)) {
		t.Helper()
		q := whole()
		change(&q)
		answersAs(what, q, api.ErrArg)
	}
	answersAs("whole", whole(), api.OK)
	answersAs("nothing", api.Query{}, api.ErrArg)
	changed("no Vars", func(q *api.Query) { q.Vars = nil })
	changed("empty Vars", func(q *api.Query) { q.Vars = []string{} })
	changed("no atoms", func(q *api.Query) { q.Atoms = nil })
	changed("Vars alike", func(q *api.Query) { q.Vars = []string{"x", "x"} })
	changed("Vars alike, not side by side", func(q *api.Query) { q.Vars = []string{"x", "y", "x"} })
	changed("one of Vars in no atom", func(q *api.Query) { q.Vars = []string{"x", "z"} })
	changed("one of Vars as a word alone", func(q *api.Query) { q.Vars = []string{"ann"} })
	changed("one of Vars as a path's word", func(q *api.Query) { q.Vars = []string{"p"} })
	changed("7 Vars", func(q *api.Query) { q.Vars = strings.Fields("x y a b c d e") })
	changed("100000 Vars", func(q *api.Query) { q.Vars = make([]string, 100000) })
	changed("7 atoms", func(q *api.Query) { q.Atoms = slices.Repeat(q.Atoms, 4)[:7] })
	changed("1000 atoms", func(q *api.Query) { q.Atoms = slices.Repeat(q.Atoms, 500) })
	changed("an empty atom", func(q *api.Query) { q.Atoms = append(q.Atoms, api.Atom{}) })
	changed("7 variables", func(q *api.Query) {
		p := wd("p")
		q.Atoms = append(q.Atoms, atom("?a", p, "?b"), atom("?c", p, "?d"), atom("?e", p, "?x"))
	})
	for _, s := range noWords {
		changed("a subject", func(q *api.Query) { q.Atoms[1].S.Name = s })
		changed("an object", func(q *api.Query) { q.Atoms[1].O = api.Term{Name: s} })
		changed("a variable as an object", func(q *api.Query) {
			q.Atoms = append(q.Atoms, api.Atom{S: term("a"), Path: wd("p"), O: api.Term{Var: true, Name: s}})
		})
		changed("a variable as a subject", func(q *api.Query) {
			q.Atoms = append(q.Atoms, api.Atom{S: api.Term{Var: true, Name: s}, Path: wd("p"), O: term("a")})
		})
		changed("one of Vars", func(q *api.Query) { q.Vars = append(q.Vars, s) })
		changed("one of Vars, and a variable", func(q *api.Query) {
			q.Vars = append(q.Vars, s)
			q.Atoms = append(q.Atoms, api.Atom{S: api.Term{Var: true, Name: s}, Path: wd("p"), O: term("a")})
		})
		changed("a path's word", func(q *api.Query) { q.Atoms[0].Path.Kids[0].Word = s })
	}
	for _, p := range anyPaths() {
		want := api.ErrArg
		if pathMayBeBy(p) {
			want = api.OK
		}
		for at := range 2 {
			q := whole()
			q.Atoms[at].Path = p
			answersAs(fmt.Sprintf("the path %.200v", p), q, want)
		}
	}
	six := ask("a b c d e f", atom("?a", wd("p"), "?b"), atom("?c", wd("p"), "?d"), atom("?e", wd("p"), "?f"))
	answersAs("6 Vars, 6 variables", six, api.OK)
	six.Atoms = slices.Repeat(six.Atoms, 2)
	answersAs("6 atoms", six, api.OK)
}

// Mo1: what may not be is told ahead of too many rows.
func TestErrorsInOrder(t *testing.T) {
	facts := fan(5000)
	q := parsed(t, "select ?x where { hub p ?x }")
	if l, e := model.Rows(facts, q); len(l) != 0 || e != api.ErrMany {
		t.Errorf("%d rows, %d", len(l), e)
	}
	q.Vars = []string{"x", "x"}
	if l, e := model.Rows(facts, q); len(l) != 0 || e != api.ErrArg {
		t.Errorf("%d rows, %d", len(l), e)
	}
	q = parsed(t, "select ?x where { hub p ?x }")
	q.Atoms[0].Path = api.Path{}
	if l, e := model.Rows(facts, q); len(l) != 0 || e != api.ErrArg {
		t.Errorf("%d rows, %d", len(l), e)
	}
}
