package query_test

import (
	"math"
	"math/rand"
	"slices"
	"strconv"
	"strings"
	"testing"
	"unsafe"

	"sinew/api"
	"sinew/query"
	"sinew/token"
)

// Paths, terms, atoms and requests, spelt out.

func wd(word string) api.Path { return api.Path{Kind: api.PathWord, Word: word} }

func seq(kids ...api.Path) api.Path { return api.Path{Kind: api.PathSeq, Kids: kids} }

func alt(kids ...api.Path) api.Path { return api.Path{Kind: api.PathAlt, Kids: kids} }

func star(kid api.Path) api.Path { return api.Path{Kind: api.PathStar, Kids: []api.Path{kid}} }

func plus(kid api.Path) api.Path { return api.Path{Kind: api.PathPlus, Kids: []api.Path{kid}} }

func maybe(kid api.Path) api.Path { return api.Path{Kind: api.PathMaybe, Kids: []api.Path{kid}} }

// term is a variable, if it begins with a question mark.
func term(s string) api.Term {
	return api.Term{Var: strings.HasPrefix(s, "?"), Name: strings.TrimPrefix(s, "?")}
}

func atom(s string, p api.Path, o string) api.Atom {
	return api.Atom{S: term(s), Path: p, O: term(o)}
}

// rows is a query, its Vars divided by blanks.
func rows(vars string, atoms ...api.Atom) api.Request {
	return api.Request{Kind: api.AskRows, Query: api.Query{Vars: strings.Fields(vars), Atoms: atoms}}
}

func batch(l ...api.Change) api.Request {
	return api.Request{Kind: api.AskBatch, Changes: l}
}

func insert(s, p, o string) api.Change { return api.Change{T: api.Triple{S: s, P: p, O: o}} }

func remove(s, p, o string) api.Change {
	return api.Change{Gone: true, T: api.Triple{S: s, P: p, O: o}}
}

// samePath tells whether two paths are the same; nil and the empty list are.
func samePath(a, b api.Path) bool {
	return a.Kind == b.Kind && a.Word == b.Word && slices.EqualFunc(a.Kids, b.Kids, samePath)
}

// sameRequest tells whether two requests are the same.
func sameRequest(a, b api.Request) bool {
	sameAtom := func(a, b api.Atom) bool { return a.S == b.S && a.O == b.O && samePath(a.Path, b.Path) }
	return a.Kind == b.Kind && slices.Equal(a.Query.Vars, b.Query.Vars) && slices.EqualFunc(a.Query.Atoms, b.Query.Atoms, sameAtom) && slices.Equal(a.Changes, b.Changes)
}

// reads must be what a text is read as.
func reads(t *testing.T, s string, want api.Request) {
	t.Helper()
	if r, at, e := query.Parse(s); !sameRequest(r, want) || at != 0 || e != api.OK {
		t.Errorf("Parse(%.80q): %.300v, %d, %d, want %.300v", s, r, at, e, want)
	}
}

// refused must be how a text is answered.
func refused(t *testing.T, s string, wantAt int, want api.Errno) {
	t.Helper()
	if r, at, e := query.Parse(s); !sameRequest(r, api.Request{}) || at != wantAt || e != want {
		t.Errorf("Parse(%.80q): %.300v, %d, %d, want %d at %d", s, r, at, e, want, wantAt)
	}
}

// misfit must be the place of the first sign of a text that cannot follow: that behind the mark «, which is no part of it.
func misfit(t *testing.T, s string) {
	t.Helper()
	at := strings.Index(s, "«")
	if at < 0 {
		t.Fatalf("%q has no place", s)
	}
	refused(t, s[:at]+s[at+len("«"):], at, api.ErrParse)
}

// held tells whether Parse answers a text as the chapter says; and what is told may be, and is read again from its text.
func held(t *testing.T, s string) api.Errno {
	t.Helper()
	r, at, e := query.Parse(s)
	want, wantAt, wantE := parseBy(s)
	if !sameRequest(r, want) || at != wantAt || e != wantE {
		t.Fatalf("Parse(%q): %v, %d, %d, want %v, %d, %d", s, r, at, e, want, wantAt, wantE)
	}
	if e == api.OK {
		round(t, r)
	}
	return e
}

// round tells whether a request may be, has the text that the chapter says, and is read again from it.
func round(t *testing.T, r api.Request) {
	t.Helper()
	if e := query.Check(r); e != api.OK || !mayBeBy(r) {
		t.Fatalf("Check(%v): %d", r, e)
	}
	s, e := query.Print(r)
	if want := textBy(r); s != want || e != api.OK {
		t.Fatalf("Print(%v): %q, %d, want %q", r, s, e, want)
	}
	again, at, e := query.Parse(s)
	if len(s) > 4096 {
		if !sameRequest(again, api.Request{}) || at != 0 || e != api.ErrArg {
			t.Fatalf("Parse of %d bytes: %d, %d", len(s), at, e)
		}
		return
	}
	if !sameRequest(again, r) || at != 0 || e != api.OK {
		t.Fatalf("Parse(%q): %v, %d, %d, want %v", s, again, at, e, r)
	}
}

// mayNot must be how a request is answered.
func mayNot(t *testing.T, what string, r api.Request) {
	t.Helper()
	if e := query.Check(r); e != api.ErrArg {
		t.Errorf("%s: Check: %d", what, e)
	}
	if s, e := query.Print(r); s != "" || e != api.ErrArg {
		t.Errorf("%s: Print: %q, %d", what, s, e)
	}
}

// number is a name or word with a number.
func number(word string, i int) string {
	return word + strconv.Itoa(i)
}

// The chapter's examples.
func TestExample(t *testing.T) {
	r := rows("x", atom("?x", seq(wd("p"), star(wd("q"))), "bob"))
	reads(t, "select ?x where { ?x p/q* bob }", r)
	round(t, r)
	r = batch(insert("ann", "p", "bob"), remove("ann", "q", "cat"))
	reads(t, "insert ann p bob . delete ann q cat", r)
	round(t, r)
}

// Qu1: whole requests, with as many and as few blanks, tabs and newlines as may be.
func TestRequests(t *testing.T) {
	one := rows("x", atom("?x", wd("p"), "?x"))
	for _, s := range []string{"select ?x where { ?x p ?x }", "select?x where{?x p?x}", "select?x where{?x p?x.}", "\n select\t?x\nwhere { ?x p ?x\t}\n\n", "select ?x where{?x p?x . }"} {
		reads(t, s, one)
	}
	two := rows("y x", atom("?x", wd("p"), "bob"), atom("ann", maybe(wd("q")), "?y"))
	for _, s := range []string{"select ?y ?x where { ?x p bob . ann q? ?y }", "select?y?x where{?x p bob.ann q??y}", "select ?y ?x where { ?x p bob . ann q ? ?y . }"} {
		reads(t, s, two)
	}
	three := rows("x:1 -- 0", atom("?x:1", alt(wd("a"), wd("b")), "?--"), atom("0", wd("1"), "2"), atom("?0", plus(seq(wd("a-b"), wd("a:b"))), "?x:1"))
	reads(t, "select ?x:1 ?-- ?0 where { ?x:1 a|b ?-- . 0 1 2 . ?0 (a-b/a:b)+ ?x:1 }", three)
	reads(t, "insert a p b", batch(insert("a", "p", "b")))
	reads(t, "\tdelete a\np b ", batch(remove("a", "p", "b")))
	reads(t, "delete a p b.insert a p b . delete - : 0", batch(remove("a", "p", "b"), insert("a", "p", "b"), remove("-", ":", "0")))
	reads(t, "insert a p b . insert a p b", batch(insert("a", "p", "b"), insert("a", "p", "b")))
}

// pathReads must be what a path's text is read as, wherever it stands.
func pathReads(t *testing.T, s string, want api.Path) {
	t.Helper()
	reads(t, "select ?x where { ?x "+s+" ?x }", rows("x", atom("?x", want, "?x")))
	reads(t, "select ?x where { a b c . ?x "+s+" d . }", rows("x", atom("a", wd("b"), "c"), atom("?x", want, "d")))
	reads(t, "select ?x where { a ("+s+") ?x }", rows("x", atom("a", want, "?x")))
}

// Qu1: the trees of paths: what binds closer, and what brackets do.
func TestTrees(t *testing.T) {
	a, b, c, d := wd("a"), wd("b"), wd("c"), wd("d")
	for s, want := range map[string]api.Path{
		"a":                 a,
		"a/b":               seq(a, b),
		"a/b/c":             seq(a, b, c),
		"a/b/c/d":           seq(a, b, c, d),
		"a|b":               alt(a, b),
		"a|b|c":             alt(a, b, c),
		"a|b|c|d":           alt(a, b, c, d),
		"a*":                star(a),
		"a+":                plus(a),
		"a?":                maybe(a),
		"a/b|c":             alt(seq(a, b), c),
		"a|b/c":             alt(a, seq(b, c)),
		"a/b|c/d":           alt(seq(a, b), seq(c, d)),
		"a|b/c|d":           alt(a, seq(b, c), d),
		"(a|b)/c":           seq(alt(a, b), c),
		"a/(b|c)":           seq(a, alt(b, c)),
		"a/(b|c)/d":         seq(a, alt(b, c), d),
		"a/b*":              seq(a, star(b)),
		"a*/b":              seq(star(a), b),
		"a|b+":              alt(a, plus(b)),
		"a?|b":              alt(maybe(a), b),
		"(a/b)*":            star(seq(a, b)),
		"(a|b)+":            plus(alt(a, b)),
		"(a|b/c)?":          maybe(alt(a, seq(b, c))),
		"(a)":               a,
		"((a))":             a,
		"(((a)))*":          star(a),
		"(a*)":              star(a),
		"((a)/(b))":         seq(a, b),
		"(a)|((b))":         alt(a, b),
		"((a/b)|(c))":       alt(seq(a, b), c),
		"(a/b)/c":           seq(seq(a, b), c),
		"a/(b/c)":           seq(a, seq(b, c)),
		"(a/b)/(c/d)":       seq(seq(a, b), seq(c, d)),
		"(a|b)|c":           alt(alt(a, b), c),
		"a|(b|c)":           alt(a, alt(b, c)),
		"(a|b)|(c|d)":       alt(alt(a, b), alt(c, d)),
		"a|(b/c)":           alt(a, seq(b, c)),
		"a**":               star(star(a)),
		"a++":               plus(plus(a)),
		"a??":               maybe(maybe(a)),
		"a*+?":              maybe(plus(star(a))),
		"a?+*":              star(plus(maybe(a))),
		"a+*?+":             plus(maybe(star(plus(a)))),
		"(a*)*":             star(star(a)),
		"((a*)+)?":          maybe(plus(star(a))),
		"(a*)+?":            maybe(plus(star(a))),
		"a*/b+|c?":          alt(seq(star(a), plus(b)), maybe(c)),
		"(a|b)*/(c/d)?":     seq(star(alt(a, b)), maybe(seq(c, d))),
		"((a|b)/(c|d))*|a":  alt(star(seq(alt(a, b), alt(c, d))), a),
		"(((a/b)|c)*/d)+":   plus(seq(star(alt(seq(a, b), c)), d)),
		"a / b | c * ? + ":  alt(seq(a, b), plus(maybe(star(c)))),
		"( a\n/\tb ) ?":     maybe(seq(a, b)),
		"a|b|(c|d|(a|b))|c": alt(a, b, alt(c, d, alt(a, b)), c),
		"a/b/(c/d/(a/b))/c": seq(a, b, seq(c, d, seq(a, b)), c),
		"a/a|a/a":           alt(seq(a, a), seq(a, a)),
		"(a/(b|(c/(d)*)))":  seq(a, alt(b, seq(c, star(d)))),
	} {
		pathReads(t, s, want)
	}
	for _, n := range []int{1, 2, 11, 12, 13, 24, 25, 100, 2000} {
		open, shut := strings.Repeat("(", n), strings.Repeat(")", n)
		reads(t, "select?x where{?x "+open+"a"+shut+"?x}", rows("x", atom("?x", a, "?x")))
	}
}

// Qu1: a `.` ahead of `}`, two of them, one ahead of the first atom, and in a batch.
func TestDots(t *testing.T) {
	one, two := atom("?x", wd("p"), "b"), atom("c", wd("q"), "?x")
	reads(t, "select ?x where { ?x p b . }", rows("x", one))
	reads(t, "select ?x where { ?x p b . c q ?x . }", rows("x", one, two))
	reads(t, "select ?x where { ?x p b . c q ?x }", rows("x", one, two))
	misfit(t, "select ?x where { ?x p b . «. }")
	misfit(t, "select ?x where { ?x p b . «. c q ?x }")
	misfit(t, "select ?x where { ?x p b . c q ?x . «. }")
	misfit(t, "select ?x where { «. ?x p b }")
	misfit(t, "select ?x where { «. }")
	misfit(t, "select ?x where { «}")
	misfit(t, "select ?x where { ?x p b } «.")
	misfit(t, "select ?x where «. { ?x p b }")
	misfit(t, "select ?x «. where { ?x p b }")
	misfit(t, "select ?x where { ?x p b «c q ?x }")
	misfit(t, "select ?x where { ?x p b .«")
	misfit(t, "select ?x where { ?x p b . «{")
	misfit(t, "select ?x where { ?x «. p b }")
	misfit(t, "select ?x where { ?x p «. b }")
	misfit(t, "select ?x where { ?x (p «. q) b }")
	misfit(t, "«. insert a p b")
	misfit(t, "insert a p b .«")
	misfit(t, "insert a p b . «. insert a p b")
	misfit(t, "insert a p b «insert a p b")
	misfit(t, "insert «. a p b")
	misfit(t, "insert a «. p b")
	misfit(t, "insert a p «. b")
}

// Qu1: select, where, insert and delete are words where a word may stand.
func TestWordsOfTheGrammar(t *testing.T) {
	l := []string{"select", "where", "insert", "delete"}
	for _, a := range l {
		for _, b := range l {
			for _, c := range l {
				reads(t, "insert "+a+" "+b+" "+c, batch(insert(a, b, c)))
				reads(t, "insert x y z . delete "+a+" "+b+" "+c+" . insert "+c+" "+b+" "+a, batch(insert("x", "y", "z"), remove(a, b, c), insert(c, b, a)))
				reads(t, "select ?x where { "+a+" "+b+" "+c+" . ?x p ?x }", rows("x", atom(a, wd(b), c), atom("?x", wd("p"), "?x")))
				reads(t, "select ?x where { ?x ("+a+"|"+b+")*/"+c+" ?x }", rows("x", atom("?x", seq(star(alt(wd(a), wd(b))), wd(c)), "?x")))
				reads(t, "select ?"+a+" ?z where { ?"+a+" "+b+" ?z . "+c+" p ?z }", rows(a+" z", atom("?"+a, wd(b), "?z"), atom(c, wd("p"), "?z")))
			}
		}
		misfit(t, "select «"+a+" { ?x p ?x }")
		if a != "where" {
			misfit(t, "select ?x «"+a+" { ?x p ?x }")
			misfit(t, "select ?x «"+a+" where { ?x p ?x }")
		}
		misfit(t, "select ?x where «"+a+" { ?x p ?x }")
		misfit(t, "select ?x where { ?x p ?x «"+a+" }")
		misfit(t, "select ?x where { ?x p ?x } «"+a)
		misfit(t, "insert x y z «"+a)
		misfit(t, "«?"+a)
		if a == "select" || a == "where" {
			misfit(t, "insert x y z . «"+a+" a b c")
		}
		for _, s := range []string{a + "s", a[1:], a[:len(a)-1], a + "-", a + ":", "0" + a} {
			misfit(t, "«"+s+" ?x where { ?x p ?x }")
			misfit(t, "«"+s+" a p b")
			misfit(t, "insert a p b . «"+s+" a p b")
			misfit(t, "select ?x «"+s+" { ?x p ?x }")
		}
	}
	misfit(t, "«where select ?x { ?x p ?x }")
	misfit(t, "insert a p b . «select ?x where { ?x p ?x }")
	misfit(t, "select ?x where { ?x p ?x } «insert a p b")
	misfit(t, "select ?x where { ?x p ?x } «select ?x where { ?x p ?x }")
}

// Qu1: `?` as a mark, and as a name's beginning.
func TestQuestion(t *testing.T) {
	p, q := wd("p"), wd("q")
	reads(t, "select ?x where { ?x p?x }", rows("x", atom("?x", p, "?x")))
	reads(t, "select ?x where { ?x p? x }", rows("x", atom("?x", maybe(p), "x")))
	reads(t, "select ?x where { ?x p ? x }", rows("x", atom("?x", maybe(p), "x")))
	reads(t, "select ?x where { ?x p??x }", rows("x", atom("?x", maybe(p), "?x")))
	reads(t, "select ?x where { ?x p???x }", rows("x", atom("?x", maybe(maybe(p)), "?x")))
	reads(t, "select ?x where { ?x p?/q?x }", rows("x", atom("?x", seq(maybe(p), q), "?x")))
	reads(t, "select ?x where { ?x (p?|q)?\tx }", rows("x", atom("?x", maybe(alt(maybe(p), q)), "x")))
	reads(t, "select ?x where { ?x p*?+?x }", rows("x", atom("?x", plus(maybe(star(p))), "?x")))
	misfit(t, "select ?x where { ?x p?x «x }")
	misfit(t, "select ?x where { ?x p ?«}")
	misfit(t, "select ?x where { ?x p/«?q ?x }")
	misfit(t, "select ?x where { ?x p|«?q ?x }")
	misfit(t, "select ?x where { ?x (p«?q) ?x }")
	misfit(t, "select ?x where { ?x («?q) ?x }")
	misfit(t, "select ?x where { ?x «?q ?x }")
	misfit(t, "select ?x where { ?x «? q ?x }")
	misfit(t, "select «? x where { ?x p ?x }")
	misfit(t, "select ?x «? y where { ?x p ?x }")
	misfit(t, "select ?x where { «? x p ?x }")
	misfit(t, "select ?x where { ?x p?x«? }")
	misfit(t, "insert a«?p b")
	misfit(t, "insert a p «?b")
	misfit(t, "insert a p«? b")
	misfit(t, "insert a p b«?")
}

// Qu1: each rule of the grammar, not taken: the place of the first sign that cannot follow, len(s) at the end.
func TestMisfits(t *testing.T) {
	for _, s := range []string{
		"«", " \n\t«", "«a", "«?x", "«{", "«}", "«(", "«)", "«.", "«/", "«|", "«*", "«+", "«?", "«where",
		"select«", "select  «", "select «where", "select «{", "select «x where { ?x p ?x }", "select «. ?x",
		"select ?x«", "select ?x\n«", "select ?x «{ ?x p ?x }", "select ?x «}", "select ?x «| ?y where { ?x p ?x }", "select ?x «x", "select ?x ?y «select",
		"select ?x where«", "select ?x where «?y { ?x p ?x }", "select ?x where «( ?x p ?x )", "select ?x where «where { ?x p ?x }",
		"select ?x where {«", "select ?x where { «}", "select ?x where { «{ ?x p ?x }", "select ?x where { «( ?x ) p ?x }", "select ?x where { «* }",
		"select ?x where { ?x«", "select ?x where { ?x «}", "select ?x where { ?x «?x ?x }", "select ?x where { ?x «/ p ?x }", "select ?x where { ?x «| p ?x }", "select ?x where { ?x «* ?x }", "select ?x where { ?x «) ?x }", "select ?x where { a «{",
		"select ?x where { ?x p«", "select ?x where { ?x p «}", "select ?x where { ?x p «( ?x }", "select ?x where { ?x p «) ?x }", "select ?x where { ?x p «{ ?x }", "select ?x where { ?x p «. ?x }",
		"select ?x where { ?x p/«", "select ?x where { ?x p/ «?x }", "select ?x where { ?x p/«/q ?x }", "select ?x where { ?x p/«|q ?x }", "select ?x where { ?x p/«* ?x }", "select ?x where { ?x p/«) ?x }", "select ?x where { ?x p/«} ",
		"select ?x where { ?x p|«", "select ?x where { ?x p| «?x }", "select ?x where { ?x p|«|q ?x }", "select ?x where { ?x p|«/q ?x }", "select ?x where { ?x p|«+ ?x }", "select ?x where { ?x p|«. ?x }",
		"select ?x where { ?x p*«", "select ?x where { ?x p* «( ?x }", "select ?x where { ?x p+ «{", "select ?x where { ?x p? «. ?x }", "select ?x where { ?x p*«) ?x }", "select ?x where { ?x p+ «}",
		"select ?x where { ?x («", "select ?x where { ?x («) ?x }", "select ?x where { ?x (p«", "select ?x where { ?x (p «?x }", "select ?x where { ?x (p «q) ?x }", "select ?x where { ?x (p|q «}", "select ?x where { ?x («*p) ?x }", "select ?x where { ?x («?x) ?x }", "select ?x where { ?x («/p) ?x }", "select ?x where { ?x (p/«) ?x }", "select ?x where { ?x (p|«) ?x }", "select ?x where { ?x (p«(q)) ?x }", "select ?x where { ?x (p)«(q) ?x }", "select ?x where { ?x ((p) «?x }", "select ?x where { ?x (p)«) ?x }", "select ?x where { ?x (p*«{) ?x }", "select ?x where { ?x (p «.",
		"select ?x where { ?x p ?x«", "select ?x where { ?x p ?x «?y }", "select ?x where { ?x p ?x «y }", "select ?x where { ?x p x «y }", "select ?x where { ?x p ?x «* }", "select ?x where { ?x p x«/q ?x }", "select ?x where { ?x p x«|q ?x }", "select ?x where { ?x p x «{", "select ?x where { ?x p x «)", "select ?x where { ?x p x «(",
		"select ?x where { ?x p ?x } «}", "select ?x where { ?x p ?x } «x", "select ?x where { ?x p ?x } «?x", "select ?x where { ?x p ?x } «.", "select ?x where { ?x p ?x . } «{",
		"insert«", "insert «?x p b", "insert «.", "insert «(a) p b", "insert a«", "insert a «.", "insert a «?p b", "insert a «/ p b", "insert a p«", "insert a p \t«", "insert a p «?b", "insert a p«/q b", "insert a p«* b", "insert a p«|q b", "insert a «(p) b",
		"insert a p b «c", "insert a p b «?c", "insert a p b «}", "insert a p b «delete a p b", "insert a p b .«", "insert a p b . «a p b", "insert a p b . «?a p b", "insert a p b . «}",
		"delete«", "delete «?x", "delete a p«", "delete a p b .«", "delete a p b «*", "delete «{ a p b }",
	} {
		misfit(t, s)
	}
	// The end is where the text ends, not its last sign.
	refused(t, "select ?x where { ?x p ?x \n\t ", 29, api.ErrParse)
	refused(t, strings.Repeat(" ", 4096), 4096, api.ErrParse)
}

// texts are of all rules of the grammar.
var texts = []string{
	"select ?x where { ?x p ?x }",
	"select ?x where { ?x p/q* bob }",
	"select ?x ?y where { ?x p|q ?y . ?y (p/q)+ ?x . }",
	"select ?x where { ?x (p|q/r)*/p? bob . ann (p+)* ?x }",
	"select ?x ?y ?z where{?x((a|b)/c)?+?y.?y((d))?z.where select insert.}",
	"select?a?b where{?a p??b.b(p?/q?)?a}",
	"select ?x where { ?x (((p))) c . ?x p/q/r|s/t|u ?x }",
	"insert a p b",
	"insert ann p bob . delete ann q cat",
	"delete a b c . insert insert delete where . delete select where select",
}

// vocabulary is signs of all kinds.
var vocabulary = []string{"select", "where", "insert", "delete", "a", "?x", "?y", "{", "}", "(", ")", ".", "/", "|", "*", "+", "?"}

// spelt are the signs of a text, as they stand in it.
func spelt(t *testing.T, s string) []string {
	t.Helper()
	signs, _, e := token.Signs(s)
	if e != api.OK {
		t.Fatalf("%q: %d", s, e)
	}
	var l []string
	for _, g := range signs {
		if g.Kind == api.SignName {
			g.Text = "?" + g.Text
		}
		l = append(l, g.Text)
	}
	return l
}

// Qu1: every text cut at every byte, those of its signs among them.
func TestCuts(t *testing.T) {
	for _, s := range texts {
		if held(t, s) != api.OK {
			t.Errorf("%q is refused", s)
		}
		for at := range len(s) {
			held(t, s[:at])
			held(t, s[at:])
			held(t, s[:at]+"\n"+s[at:])
		}
	}
}

// Qu1: every text with one sign left out, put in, changed, or doubled; with two put in.
func TestEdits(t *testing.T) {
	for _, s := range texts {
		l := spelt(t, s)
		for at := range len(l) + 1 {
			ahead, behind := strings.Join(l[:at], " ")+" ", " "+strings.Join(l[at:], " ")
			for _, a := range vocabulary {
				held(t, ahead+a+behind)
				for _, b := range []string{"a", "?x", ".", "*", "(", ")", "/"} {
					held(t, ahead+a+" "+b+behind)
				}
			}
			if at == len(l) {
				continue
			}
			left := " " + strings.Join(l[at+1:], " ")
			held(t, ahead+left)
			held(t, ahead+l[at]+" "+l[at]+left)
			for _, a := range vocabulary {
				held(t, ahead+a+left)
			}
		}
	}
}

// Qu1: all lists of a few signs, at the beginning and within what stands around an atom's path.
func TestAllShort(t *testing.T) {
	grow := func(signs []string, most int, ahead, behind string) (whole int) {
		last := []string{""}
		for range most {
			var next []string
			for _, s := range last {
				for _, g := range signs {
					next = append(next, s+" "+g)
				}
			}
			for _, s := range next {
				if held(t, ahead+s+behind) == api.OK {
					whole++
				}
			}
			last = next
		}
		return whole
	}
	if n := grow(vocabulary, 3, "", ""); n != 0 {
		t.Errorf("%d requests of three signs", n)
	}
	if n := grow([]string{"insert", "delete", "a", ".", "?x"}, 5, "", ""); n != 2*3*3*3 {
		t.Errorf("%d batches", n)
	}
	if n := grow([]string{"p", "(", ")", "|", "/", "*", "?", "?x"}, 4, "select ?x where { ?x", " ?x }"); n == 0 {
		t.Error("no paths")
	}
	if n := grow([]string{"a", "(", ")", "|", "?", "?x", "."}, 4, "select ?x where { ?x p", " }"); n == 0 {
		t.Error("no atoms")
	}
}

// Qu1: what layer 8 refuses, with its place, also where the grammar is broken ahead of it.
func TestSignsRefused(t *testing.T) {
	long := strings.Repeat("a", 17)
	for _, bad := range []string{";", "_", "A", "\x00", "\r", "\xff", "ä", "<", long, "?" + long} {
		refused(t, bad, 0, api.ErrSign)
		refused(t, "select ?x "+bad, 10, api.ErrSign)
		refused(t, "select ?x where { ?x p ?x } "+bad, 28, api.ErrSign)
		refused(t, "select ?x where { ?x p ?x . "+bad+" }", 28, api.ErrSign)
		refused(t, "} select ?x "+bad, 12, api.ErrSign)
		refused(t, "where { "+bad+" ; "+bad, 8, api.ErrSign)
		refused(t, ". . . "+bad, 6, api.ErrSign)
		refused(t, "insert a p "+bad, 11, api.ErrSign)
		refused(t, "select ?x ?x ?y where { ?z p*************** ?z } "+bad, 49, api.ErrSign)
		for _, s := range texts {
			l := spelt(t, s)
			for at := range len(l) + 1 {
				ahead := strings.Join(l[:at], " ") + " "
				refused(t, ahead+bad+" "+strings.Join(l[at:], " "), len(ahead), api.ErrSign)
			}
		}
	}
	sixteen := strings.Repeat("z", 16)
	reads(t, "insert "+sixteen+" "+sixteen+" "+sixteen, batch(insert(sixteen, sixteen, sixteen)))
	reads(t, "select ?"+sixteen+" where { "+sixteen+" "+sixteen+"?"+sixteen+" }", rows(sixteen, atom(sixteen, wd(sixteen), "?"+sixteen)))
}

// Qu1: texts of 4095, 4096 and 4097 bytes; beyond 4096, ErrArg ahead of all else, with the place 0.
func TestTextLength(t *testing.T) {
	for _, s := range texts {
		want, _, _ := query.Parse(s)
		middle := strings.Index(s, " ")
		if middle < 0 {
			middle = strings.Index(s, "?")
		}
		for _, length := range []int{4095, 4096, 4097, 4098, 10000} {
			room := strings.Repeat(" ", length-len(s))
			for _, long := range []string{room + s, s + room, s[:middle] + room + s[middle:]} {
				if length > 4096 {
					refused(t, long, 0, api.ErrArg)
					continue
				}
				reads(t, long, want)
			}
			if length > 4096 {
				continue
			}
			if strings.HasPrefix(s, "select") {
				refused(t, s+room[1:]+".", length-1, api.ErrParse)
				refused(t, s[:len(s)-1]+" "+room, length, api.ErrParse)
			} else {
				refused(t, s+room[1:]+".", length, api.ErrParse)
				refused(t, s+room[1:]+"}", length-1, api.ErrParse)
			}
		}
	}
	for _, s := range []string{";", "}", "", "a", "?"} {
		refused(t, s+strings.Repeat(" ", 4097-len(s)), 0, api.ErrArg)
		refused(t, strings.Repeat(";", 4097)+s, 0, api.ErrArg)
		refused(t, strings.Repeat("(", 4097)+s, 0, api.ErrArg)
		refused(t, strings.Repeat("a", 1<<20)+s, 0, api.ErrArg)
	}
	refused(t, strings.Repeat(" ", 4095)+"}", 4095, api.ErrParse)
	refused(t, strings.Repeat(" ", 4095)+";", 4095, api.ErrSign)
}

// chain is a path's text of so many words, with a mark between them.
func chain(mark string, n int) string {
	return strings.TrimSuffix(strings.Repeat("p"+mark, n), mark)
}

// nest is a path's text so deep, each part but the innermost one of two kids; if onLeft, the first one is the deep one.
func nest(deep int, onLeft bool) string {
	s := "p"
	for i := 1; i < deep; i++ {
		mark := "|"
		if i%2 == 0 {
			mark = "/"
		}
		if i > 1 {
			s = "(" + s + ")"
		}
		if onLeft {
			s = s + mark + "p"
		} else {
			s = "p" + mark + s
		}
	}
	return s
}

// asked is a query's text.
func asked(vars []string, atoms []string) string {
	return "select ?" + strings.Join(vars, " ?") + " where { " + strings.Join(atoms, " . ") + " }"
}

// many are so many names or words.
func many(word string, n int) (l []string) {
	for i := range n {
		l = append(l, number(word, i))
	}
	return l
}

// atLimit must be read; beyond must be refused.
func atLimit(t *testing.T, s string) {
	t.Helper()
	if held(t, s) != api.OK {
		t.Errorf("Parse(%.200q): %d", s, held(t, s))
	}
}

func beyond(t *testing.T, s string, e api.Errno) {
	t.Helper()
	held(t, s)
	refused(t, s, 0, e)
}

// Qu1: 24 and 25 words of a path, 12 and 13 deep, of each of the atoms.
func TestDeep(t *testing.T) {
	within := []string{
		chain("/", 24), chain("|", 24), chain("/", 12) + "|" + chain("/", 12), "(" + chain("|", 12) + ")/(" + chain("|", 12) + ")",
		"(" + chain("*/", 24) + "*)+", chain("?|", 24) + "?", "((((" + chain("/", 24) + "))))",
		"p" + strings.Repeat("*", 11), "p" + strings.Repeat("+", 11), "p" + strings.Repeat("?", 11), "p*?+*?+*?+*?", nest(12, true), nest(12, false),
		"q|" + nest(12, false), "(" + nest(11, true) + ")*", chain("|", 23) + "|(p" + strings.Repeat("*", 10) + ")", "p" + strings.Repeat("+", 10) + "/" + chain("/", 23),
		strings.Repeat("(", 200) + "p" + strings.Repeat(")*", 11) + strings.Repeat(")", 189),
	}
	outside := []string{
		chain("/", 25), chain("|", 25), chain("/", 12) + "|" + chain("/", 13), "(" + chain("|", 13) + ")/(" + chain("|", 12) + ")",
		"(" + chain("*/", 25) + "*)+", chain("?|", 25) + "?", "((((" + chain("/", 25) + "))))", chain("/", 26), chain("|", 300),
		"p" + strings.Repeat("*", 12), "p" + strings.Repeat("+", 12), "p" + strings.Repeat("?", 12), "p*?+*?+*?+*?+", nest(13, true), nest(13, false), nest(24, true), nest(25, false),
		"(" + nest(12, true) + ")*", chain("|", 23) + "|(p" + strings.Repeat("*", 11) + ")", "p" + strings.Repeat("+", 11) + "/" + chain("/", 23),
		strings.Repeat("(", 200) + "p" + strings.Repeat(")*", 12) + strings.Repeat(")", 188),
	}
	for n := 1; n <= 4; n++ {
		for at := range n {
			put := func(s string) string {
				l := many("?x p q", n)
				l[at] = "?x " + s + " ?x"
				return asked([]string{"x"}, l)
			}
			for _, s := range within {
				atLimit(t, put(s))
			}
			for _, s := range outside {
				beyond(t, put(s), api.ErrDeep)
			}
		}
	}
	for _, s := range []string{"p" + strings.Repeat("*", 3000), chain("/", 1000), chain("|", 2000), strings.Repeat("(p|", 1000) + "p" + strings.Repeat(")", 1000)} {
		refused(t, asked([]string{"x"}, []string{"?x " + s + " ?x"}), 0, api.ErrDeep)
	}
	// The limits are of each path, not of all together.
	l := []string{"?x " + chain("/", 24) + " a", "a " + chain("|", 24) + " ?x", "?x p" + strings.Repeat("*", 11) + " b", "c " + nest(12, true) + " ?x"}
	atLimit(t, asked([]string{"x"}, l))
}

// Qu1: 6 and 7 of Vars, of atoms, and of variables in the atoms.
func TestFullQuery(t *testing.T) {
	six := []string{"?v0 p ?v1", "?v2 p ?v3", "?v4 p ?v5"}
	for n := 1; n <= 6; n++ {
		atLimit(t, asked(many("v", n), six))
	}
	seven := append(slices.Clone(six), "?v0 p ?v6")
	for n := 1; n <= 9; n++ {
		beyond(t, asked(many("v", n), seven), api.ErrFull)
	}
	beyond(t, asked(many("v", 7), six), api.ErrFull)
	beyond(t, asked(many("v", 100), six), api.ErrFull)
	for n := 1; n <= 6; n++ {
		atLimit(t, asked([]string{"x"}, many("?x p b", n)))
		atLimit(t, strings.TrimSuffix(asked([]string{"x"}, many("?x p b", n)), "}")+". }")
	}
	for _, n := range []int{7, 8, 64, 65, 255, 256, 257} {
		beyond(t, asked([]string{"x"}, many("?x p b", n)), api.ErrFull)
	}
	beyond(t, strings.TrimSuffix(asked([]string{"x"}, many("?x p b", 7)), "}")+". }", api.ErrFull)
	// Variables are counted once, however often they come; words are none.
	atLimit(t, asked([]string{"v0"}, []string{"?v0 p ?v1", "?v1 p ?v2", "?v2 p ?v3", "?v3 p ?v4", "?v4 p ?v5", "?v5 p ?v0"}))
	atLimit(t, asked([]string{"a"}, []string{"?a p ?b", "b c d", "e f g", "h i j", "?c p ?d", "?e p ?f"}))
	beyond(t, asked([]string{"a"}, []string{"?a p ?b", "b c d", "e f g", "h i ?g", "?c p ?d", "?e p ?f"}), api.ErrFull)
	beyond(t, asked([]string{"a"}, []string{"?a p ?b", "?c p ?d", "?e p ?f", "?g p ?h", "?i p ?j", "?k p ?l"}), api.ErrFull)
}

// changes is the text of so many changes.
func changes(n int) string {
	var l []string
	for i := range n {
		l = append(l, []string{"insert", "delete"}[i%2]+" s p "+number("o", i))
	}
	return strings.Join(l, " . ")
}

// Qu1: batches of 1, 64 and 65 changes.
func TestFullBatch(t *testing.T) {
	for _, n := range []int{1, 2, 63, 64} {
		atLimit(t, changes(n))
		if r, _, _ := query.Parse(changes(n)); len(r.Changes) != n {
			t.Errorf("%d changes: %d", n, len(r.Changes))
		}
	}
	for _, n := range []int{65, 66, 100, 200} {
		beyond(t, changes(n), api.ErrFull)
	}
	refused(t, changes(65)+" .", len(changes(65))+2, api.ErrParse)
	refused(t, changes(65)+" ;", len(changes(65))+1, api.ErrSign)
}

// Qu1: two of Vars that are alike, and one of Vars that is in no atom.
func TestVars(t *testing.T) {
	l := []string{"?a p ?b", "?c p ?d", "?e p ?f"}
	names := []string{"a", "b", "c", "d", "e", "f"}
	for n := 1; n <= 6; n++ {
		atLimit(t, asked(names[:n], l))
		for i := range n {
			for j := range n {
				vars := slices.Clone(names[:n])
				vars[i] = vars[j]
				if i == j {
					vars[i] = "g"
					beyond(t, asked(vars, l), api.ErrBound)
				} else {
					beyond(t, asked(vars, l), api.ErrArg)
				}
			}
		}
	}
	// A word of the same bytes is no variable, in whatever place.
	beyond(t, "select ?x where { x x x . ?y x x }", api.ErrBound)
	beyond(t, "select ?x where { x x/x ?xx }", api.ErrBound)
	beyond(t, "select ?x ?y where { ?x y y }", api.ErrBound)
	beyond(t, "select ?x where { a p b }", api.ErrBound)
	beyond(t, "select ?x ?x where { a p b }", api.ErrArg)
	atLimit(t, "select ?x where { a p b . a p ?x }")
	atLimit(t, "select ?y where { ?x p ?y }")
	atLimit(t, "select ?y ?x where { ?x p ?y }")
}

// Qu1: several faults in one text: the one that the chapter names first is told.
func TestSeveralFaults(t *testing.T) {
	const (
		deep = 1 << iota
		wide
		vars
		atoms
		names
		twice
		lost
		parse
		sign
		all
	)
	for f := range all {
		v, path, l := []string{"x"}, "p", []string{}
		if f&wide != 0 {
			path = chain("/", 25)
		}
		if f&deep != 0 {
			path = "(" + path + ")" + strings.Repeat("*", 12)
		}
		if f&atoms != 0 {
			l = many("a p b", 6)
		}
		if f&names != 0 {
			l = append(l, "?u0 p ?u1", "?u2 p ?u3", "?u4 p ?u5")
		}
		l = append(l, "?x "+path+" ?x")
		if f&twice != 0 {
			v = append(v, "x")
		}
		if f&lost != 0 {
			v = append(v, "lost")
		}
		if f&vars != 0 {
			v = append(v, many("v", 7)...)
		}
		s := asked(v, l)
		want, at := api.OK, 0
		switch {
		case f&sign != 0:
			want, at = api.ErrSign, len(s)+3
		case f&parse != 0:
			want, at = api.ErrParse, len(s)+1
		case f&(deep|wide) != 0:
			want = api.ErrDeep
		case f&(vars|atoms|names) != 0:
			want = api.ErrFull
		case f&twice != 0:
			want = api.ErrArg
		case f&lost != 0:
			want = api.ErrBound
		}
		if f&(parse|sign) != 0 {
			s += " } "
			if f&parse == 0 {
				s = strings.TrimSuffix(s, "} ") + "  "
			}
		}
		if f&sign != 0 {
			s += ";"
		}
		held(t, s)
		if want != api.OK {
			refused(t, s, at, want)
		}
	}
}

// Qu1: of two atoms that break different limits, and of limits ahead of where the grammar is broken.
func TestFaultsInOrder(t *testing.T) {
	beyond(t, asked([]string{"x", "x"}, append(many("?x p b", 7), "?x "+chain("/", 25)+" ?x")), api.ErrDeep)
	beyond(t, asked([]string{"y", "y"}, many("?x p b", 7)), api.ErrFull)
	beyond(t, asked([]string{"y", "y"}, many("?x p b", 6)), api.ErrArg)
	beyond(t, asked([]string{"y", "x"}, many("?x p b", 6)), api.ErrBound)
	beyond(t, asked([]string{"y", "x", "x"}, many("?x p b", 6)), api.ErrArg)
	misfit(t, "select ?x ?x where { ?y "+chain("/", 25)+" ?y «?y }")
	misfit(t, asked(many("v", 7), many("?x p b", 7))+" «}")
	misfit(t, "select ?x ?x where { ?y p************* «}")
	misfit(t, "select ?x where { ?y p ?z «where")
}

// whole is a query that may be, new each time.
func whole() api.Request {
	return rows("x y", atom("?x", seq(wd("p"), star(alt(wd("q"), wd("r")))), "?y"), atom("ann", plus(maybe(wd("p"))), "?x"))
}

// done is a batch that may be, new each time.
func done() api.Request {
	return batch(insert("ann", "p", "bob"), remove("ann", "q", "cat"))
}

// noWords are texts of which none is a word.
var noWords = []string{"", " ", "A", "a b", "?x", "é", "a\n", "\x00", "\xff", "a_b", "(", strings.Repeat("a", 17), strings.Repeat("a", 1000)}

// Qu2: requests that may be, at the limits among them.
func TestCheck(t *testing.T) {
	round(t, whole())
	round(t, done())
	var l []api.Change
	for i := range 65 {
		if i > 0 && i <= 64 {
			round(t, batch(l...))
		}
		l = append(l, insert("s", "p", number("o", i)))
	}
	mayNot(t, "65 changes", batch(l...))
	mayNot(t, "1000 changes", batch(make([]api.Change, 1000)...))
	mayNot(t, "no changes", batch())
	mayNot(t, "no changes, not even a list", api.Request{Kind: api.AskBatch})
	sixteen := strings.Repeat(":", 16)
	round(t, batch(remove(sixteen, sixteen, sixteen)))
	round(t, rows(sixteen, atom("?"+sixteen, wd(sixteen), sixteen)))
	round(t, rows("-", atom("0", wd(":"), "?-")))
	for _, w := range []string{"select", "where", "insert", "delete"} {
		round(t, rows(w, atom("?"+w, wd(w), w)))
		round(t, batch(remove(w, w, w)))
	}
}

// Qu2: each kind of request, with what belongs to it and to the other one.
func TestKinds(t *testing.T) {
	for _, kind := range []int{math.MinInt, -1, 0, 1, 2, 3, 4, 256 + 1, 1<<32 + 1, math.MaxInt} {
		q, b, both, none := whole(), done(), whole(), api.Request{Kind: kind}
		q.Kind, b.Kind, both.Kind = kind, kind, kind
		both.Changes = done().Changes
		if kind == api.AskRows {
			round(t, q)
		} else {
			mayNot(t, number("a query of kind ", kind), q)
		}
		if kind == api.AskBatch {
			round(t, b)
		} else {
			mayNot(t, number("a batch of kind ", kind), b)
		}
		mayNot(t, number("both, of kind ", kind), both)
		mayNot(t, number("nothing, of kind ", kind), none)
	}
	r := done()
	r.Query.Vars = []string{"x"}
	mayNot(t, "a batch with Vars", r)
	r = done()
	r.Query.Atoms = whole().Query.Atoms
	mayNot(t, "a batch with atoms", r)
	r = whole()
	r.Changes = done().Changes[:1]
	mayNot(t, "a query with one change", r)
	r = whole()
	r.Changes = make([]api.Change, 1)
	mayNot(t, "a query with an empty change", r)
	// nil and the empty list are the same.
	r = whole()
	r.Changes = []api.Change{}
	r.Query.Atoms[1].Path.Kids[0].Kids[0].Kids = []api.Path{}
	round(t, r)
	r = done()
	r.Query = api.Query{Vars: []string{}, Atoms: []api.Atom{}}
	round(t, r)
}

// Qu2: each way in which a query may not be, but for its paths.
func TestQueryMayNot(t *testing.T) {
	changed := func(what string, change func(q *api.Query)) {
		t.Helper()
		r := whole()
		change(&r.Query)
		mayNot(t, what, r)
	}
	changed("no Vars", func(q *api.Query) { q.Vars = nil })
	changed("empty Vars", func(q *api.Query) { q.Vars = []string{} })
	changed("no atoms", func(q *api.Query) { q.Atoms = nil })
	changed("empty atoms", func(q *api.Query) { q.Atoms = []api.Atom{} })
	changed("Vars alone", func(q *api.Query) { q.Vars, q.Atoms = []string{"x"}, nil })
	changed("Vars alike", func(q *api.Query) { q.Vars = []string{"x", "x"} })
	changed("Vars alike, not side by side", func(q *api.Query) { q.Vars = []string{"x", "y", "x"} })
	changed("one of Vars in no atom", func(q *api.Query) { q.Vars = []string{"x", "z"} })
	changed("one of Vars as a word alone", func(q *api.Query) { q.Vars = []string{"ann"} })
	changed("one of Vars as a path's word", func(q *api.Query) { q.Vars = []string{"p"} })
	changed("7 Vars", func(q *api.Query) { q.Vars = many("v", 7) })
	changed("100000 Vars", func(q *api.Query) { q.Vars = make([]string, 100000) })
	changed("7 atoms", func(q *api.Query) { q.Atoms = slices.Repeat(q.Atoms, 4)[:7] })
	changed("1000 atoms", func(q *api.Query) { q.Atoms = slices.Repeat(q.Atoms, 500) })
	changed("an empty atom", func(q *api.Query) { q.Atoms = append(q.Atoms, api.Atom{}) })
	changed("7 variables", func(q *api.Query) {
		p := wd("p")
		q.Atoms = append(q.Atoms, atom("?a", p, "?b"), atom("?c", p, "?d"), atom("?e", p, "?x"))
	})
	for _, s := range noWords {
		changed("a subject", func(q *api.Query) { q.Atoms[1].S.Name = s })
		changed("an object", func(q *api.Query) { q.Atoms[1].O = api.Term{Name: s} })
		changed("a variable as an object", func(q *api.Query) { q.Atoms = append(q.Atoms, atom("a", wd("p"), "?"+s)) })
		changed("a variable as a subject", func(q *api.Query) { q.Atoms = append(q.Atoms, atom("?"+s, wd("p"), "a")) })
		changed("one of Vars", func(q *api.Query) { q.Vars = append(q.Vars, s) })
		changed("one of Vars, and a variable", func(q *api.Query) {
			q.Vars = append(q.Vars, s)
			q.Atoms = append(q.Atoms, api.Atom{S: api.Term{Var: true, Name: s}, Path: wd("p"), O: term("a")})
		})
		changed("a path's word", func(q *api.Query) { q.Atoms[0].Path.Kids[0].Word = s })
		changed("a path's word", func(q *api.Query) { q.Atoms[1].Path.Kids[0].Kids[0].Word = s })
	}
	r := rows("a b c d e f", atom("?a", wd("p"), "?b"), atom("?c", wd("p"), "?d"), atom("?e", wd("p"), "?f"))
	round(t, r)
	r.Query.Atoms = slices.Repeat(r.Query.Atoms, 2)
	round(t, r)
}

// Qu2: each way in which a batch may not be.
func TestBatchMayNot(t *testing.T) {
	for _, s := range noWords {
		for at := range 3 {
			for _, gone := range []bool{false, true} {
				w := [3]string{"a", "p", "b"}
				w[at] = s
				c := api.Change{Gone: gone, T: api.Triple{S: w[0], P: w[1], O: w[2]}}
				mayNot(t, "one change", batch(c))
				mayNot(t, "the first change", batch(c, insert("a", "p", "b")))
				mayNot(t, "the last change", batch(insert("a", "p", "b"), remove("a", "p", "b"), c))
			}
		}
	}
}

// anyPath is a path of a kind, with a word and so many kids.
func anyPath(kind int, word string, kids int) api.Path {
	return api.Path{Kind: kind, Word: word, Kids: slices.Repeat([]api.Path{wd("q")}, kids)}
}

// Qu2: Kids and Word as each kind of path wants them, and not; at the top and below each other kind.
func TestPathForms(t *testing.T) {
	count := 0
	for _, kind := range []int{math.MinInt, -1, 0, 1, 2, 3, 4, 5, 6, 7, 8, 1<<32 + 1, math.MaxInt} {
		for _, word := range append(noWords, "p", strings.Repeat("p", 16)) {
			for kids := range 5 {
				p := anyPath(kind, word, kids)
				may := kind == 1 && kids == 0 && isWord(word) || (kind == 2 || kind == 3) && kids >= 2 && word == "" || 4 <= kind && kind <= 6 && kids == 1 && word == ""
				for _, p := range []api.Path{p, star(p), plus(p), maybe(p), seq(p, wd("a")), seq(wd("a"), p), alt(p, wd("a")), alt(wd("a"), p, wd("b")), maybe(seq(wd("a"), alt(wd("b"), p)))} {
					r := rows("x", atom("a", wd("p"), "b"), atom("?x", p, "?x"))
					if !may {
						mayNot(t, number("kind ", kind)+", word "+word+number(", kids ", kids), r)
						continue
					}
					round(t, r)
					count++
				}
			}
		}
	}
	if count != 9*(2+3+3+3) {
		t.Errorf("%d paths may be", count)
	}
}

// chained is a path of so many words as kids.
func chained(kind, n int) api.Path {
	return api.Path{Kind: kind, Kids: slices.Repeat([]api.Path{wd("p")}, n)}
}

// within is a path so much deeper than another one, by kinds one behind the other.
func within(p api.Path, more int) api.Path {
	for i := range more {
		switch i % 5 {
		case 0:
			p = star(p)
		case 1:
			p = plus(p)
		case 2:
			p = seq(wd("a"), p)
		case 3:
			p = maybe(p)
		case 4:
			p = alt(p, wd("b"))
		}
	}
	return p
}

// Qu2: places and depth of paths at the limits and one beyond.
func TestPathLimits(t *testing.T) {
	for _, c := range []struct {
		p   api.Path
		may bool
	}{
		{chained(api.PathSeq, 24), true},
		{chained(api.PathAlt, 24), true},
		{chained(api.PathSeq, 25), false},
		{chained(api.PathAlt, 25), false},
		{alt(chained(api.PathSeq, 12), chained(api.PathSeq, 12)), true},
		{alt(chained(api.PathSeq, 12), chained(api.PathSeq, 13)), false},
		{alt(chained(api.PathSeq, 23), wd("p")), true},
		{alt(chained(api.PathSeq, 24), wd("p")), false},
		{alt(wd("p"), chained(api.PathSeq, 24)), false},
		{star(chained(api.PathAlt, 24)), true},
		{star(chained(api.PathAlt, 25)), false},
		{within(wd("p"), 11), true},
		{within(wd("p"), 12), false},
		{within(wd("p"), 13), false},
		{within(wd("p"), 1000), false},
		{alt(wd("p"), within(wd("p"), 10)), true},
		{alt(wd("p"), within(wd("p"), 11)), false},
		{alt(within(wd("p"), 10), wd("p")), true},
		{alt(within(wd("p"), 11), wd("p")), false},
		{within(chained(api.PathSeq, 20), 10), true},
		{within(chained(api.PathSeq, 21), 10), false},
		{within(chained(api.PathSeq, 20), 11), false},
		{chained(api.PathSeq, 100000), false},
	} {
		for at := range 3 {
			r := rows("x", atom("?x", wd("p"), "a"), atom("?x", wd("p"), "b"), atom("?x", wd("p"), "c"))
			r.Query.Atoms[at].Path = c.p
			if c.may {
				round(t, r)
				continue
			}
			mayNot(t, number("words: ", wordsOf(c.p))+number(", deep: ", deepOf(c.p)), r)
		}
	}
}

// Qu2: the brackets of each kind of path within each other kind.
func TestBrackets(t *testing.T) {
	a, b, c := wd("a"), wd("b"), wd("c")
	kids := []api.Path{a, seq(a, b), alt(a, b), star(a), plus(a), maybe(a)}
	for within, texts := range map[string][6]string{
		"seq":   {"a/c", "(a/b)/c", "(a|b)/c", "a*/c", "a+/c", "a?/c"},
		"qes":   {"c/a", "c/(a/b)", "c/(a|b)", "c/a*", "c/a+", "c/a?"},
		"alt":   {"a|c", "a/b|c", "(a|b)|c", "a*|c", "a+|c", "a?|c"},
		"tla":   {"c|a", "c|a/b", "c|(a|b)", "c|a*", "c|a+", "c|a?"},
		"star":  {"a*", "(a/b)*", "(a|b)*", "(a*)*", "(a+)*", "(a?)*"},
		"plus":  {"a+", "(a/b)+", "(a|b)+", "(a*)+", "(a+)+", "(a?)+"},
		"maybe": {"a?", "(a/b)?", "(a|b)?", "(a*)?", "(a+)?", "(a?)?"},
	} {
		for i, kid := range kids {
			p := map[string]api.Path{"seq": seq(kid, c), "qes": seq(c, kid), "alt": alt(kid, c), "tla": alt(c, kid), "star": star(kid), "plus": plus(kid), "maybe": maybe(kid)}[within]
			r := rows("x", atom("?x", p, "?x"))
			round(t, r)
			if s, e := query.Print(r); s != "select ?x where { ?x "+texts[i]+" ?x }" || e != api.OK {
				t.Errorf("%s: %q, %d, want %q", within, s, e, texts[i])
			}
		}
	}
}

// Qu2: the texts of requests, spelt out.
func TestPrint(t *testing.T) {
	for want, r := range map[string]api.Request{
		"select ?x ?y where { ?x p/(q|r)* ?y . ann (p?)+ ?x }":     whole(),
		"insert ann p bob . delete ann q cat":                      done(),
		"insert a p b":                                             batch(insert("a", "p", "b")),
		"delete a p b":                                             batch(remove("a", "p", "b")),
		"select ?x where { x x ?x }":                               rows("x", atom("x", wd("x"), "?x")),
		"select ?x where { ?x p? x }":                              rows("x", atom("?x", maybe(wd("p")), "x")),
		"select ?b ?a where { ?a p ?b . ?b q ?a . c r d }":         rows("b a", atom("?a", wd("p"), "?b"), atom("?b", wd("q"), "?a"), atom("c", wd("r"), "d")),
		"select ?x where { ?x a/b|c/(d|e/f)/((g/h)*|i)?/(j?)+ k }": rows("x", atom("?x", alt(seq(wd("a"), wd("b")), seq(wd("c"), alt(wd("d"), seq(wd("e"), wd("f"))), maybe(alt(star(seq(wd("g"), wd("h"))), wd("i"))), plus(maybe(wd("j"))))), "k")),
		"delete where select insert . insert delete delete delete": batch(remove("where", "select", "insert"), insert("delete", "delete", "delete")),
	} {
		s, e := query.Print(r)
		if s != want || e != api.OK {
			t.Errorf("Print: %q, %d, want %q", s, e, want)
		}
	}
}

// Qu2: each variable once, subjects ahead of objects, in the order in which they come first.
func TestNames(t *testing.T) {
	p := wd("p")
	for _, c := range []struct {
		want string
		q    api.Query
	}{
		{"", api.Query{}},
		{"", api.Query{Vars: []string{"x"}}},
		{"", api.Query{Vars: []string{"x"}, Atoms: []api.Atom{}}},
		{"", rows("x", atom("x", wd("x"), "x")).Query},
		{"", rows("x", api.Atom{}).Query},
		{"a b", rows("b a", atom("?a", p, "?b")).Query},
		{"b a", rows("", atom("?b", p, "?a")).Query},
		{"a", rows("a", atom("?a", p, "?a")).Query},
		{"a", rows("a", atom("a", p, "?a")).Query},
		{"a", rows("a", atom("?a", p, "a")).Query},
		{"b a c", rows("a", atom("?b", p, "?a"), atom("?a", p, "?c")).Query},
		{"c a b", rows("a", atom("x", p, "?c"), atom("?a", p, "?c"), atom("?b", p, "?a")).Query},
		{"z y x w", rows("w", atom("?z", seq(wd("a"), wd("b")), "?y"), atom("?y", p, "?z"), atom("?x", p, "?y"), atom("?x", p, "?w")).Query},
		{"a A ?x", rows("q", api.Atom{S: api.Term{Var: true, Name: "a"}, O: api.Term{Var: true, Name: "A"}}, api.Atom{S: term("no word"), O: api.Term{Var: true, Name: "?x"}}).Query},
	} {
		if l := query.Names(c.q); strings.Join(l, " ") != c.want || !slices.Equal(l, namesBy(c.q)) {
			t.Errorf("Names(%v): %q, want %q", c.q, l, c.want)
		}
	}
	// A variable without a name is one, too, and stands for itself.
	if l := query.Names(api.Query{Atoms: []api.Atom{{S: api.Term{Var: true}, O: api.Term{Var: true}}}}); !slices.Equal(l, []string{""}) {
		t.Errorf("Names of a variable without a name: %q", l)
	}
	var long api.Query
	var want []string
	for i := range 20000 {
		s, o := number("s", i), number("o", i/3)
		long.Atoms = append(long.Atoms, atom("?"+s, p, "?"+o))
		want = append(want, s)
		if i%3 == 0 {
			want = append(want, o)
		}
	}
	if !slices.Equal(query.Names(long), want) {
		t.Error("Names of 20000 atoms")
	}
}

// chancePath is a path that looks like chance, of at most so many words and so deep.
func chancePath(r *rand.Rand, words, deep int) api.Path {
	if deep == 1 || r.Intn(4) == 0 {
		return wd(chanceWord(r))
	}
	kind := 2 + r.Intn(5)
	if kind > 3 || words < 2 {
		return api.Path{Kind: 4 + kind%3, Kids: []api.Path{chancePath(r, words, deep-1)}}
	}
	p := api.Path{Kind: kind}
	for n := 2 + r.Intn(3); words > 0 && (n > 0 || len(p.Kids) < 2); n-- {
		most := words
		if len(p.Kids) == 0 {
			most--
		}
		kid := chancePath(r, most, deep-1)
		words -= wordsOf(kid)
		p.Kids = append(p.Kids, kid)
	}
	return p
}

// chanceWord is a word that looks like chance.
func chanceWord(r *rand.Rand) string {
	few := []string{"a", "b", "p", "q", "select", "where", "insert", "delete", "0", "-", ":", "a-b:c", "sixteen-byte-wrd"}
	return few[r.Intn(len(few))]
}

// chanceTerm is a term that looks like chance.
func chanceTerm(r *rand.Rand, names []string) api.Term {
	if r.Intn(3) == 0 {
		return api.Term{Name: chanceWord(r)}
	}
	return api.Term{Var: true, Name: names[r.Intn(len(names))]}
}

// chanceRequest is a request that looks like chance, and may be.
func chanceRequest(r *rand.Rand) api.Request {
	if r.Intn(5) == 0 {
		var l []api.Change
		for range 1 + r.Intn(64) {
			l = append(l, api.Change{Gone: r.Intn(2) == 0, T: api.Triple{S: chanceWord(r), P: chanceWord(r), O: chanceWord(r)}})
		}
		return batch(l...)
	}
	names := []string{"x", "y", "select", "p", "0", "where"}[:1+r.Intn(6)]
	q := api.Query{}
	for range 1 + r.Intn(6) {
		q.Atoms = append(q.Atoms, api.Atom{S: chanceTerm(r, names), Path: chancePath(r, 1+r.Intn(24), 1+r.Intn(12)), O: chanceTerm(r, names)})
	}
	q.Atoms[0].O = api.Term{Var: true, Name: names[0]}
	q.Vars = namesBy(q)
	r.Shuffle(len(q.Vars), func(i, j int) { q.Vars[i], q.Vars[j] = q.Vars[j], q.Vars[i] })
	q.Vars = q.Vars[:1+r.Intn(len(q.Vars))]
	return api.Request{Kind: api.AskRows, Query: q}
}

// Qu3: over many requests that may be, Parse of Print is the request.
func TestRound(t *testing.T) {
	r := rand.New(rand.NewSource(91))
	most, deepest, long := 0, 0, 0
	for range 20000 {
		q := chanceRequest(r)
		round(t, q)
		for _, a := range q.Query.Atoms {
			most, deepest = max(most, wordsOf(a.Path)), max(deepest, deepOf(a.Path))
		}
		s, _ := query.Print(q)
		long = max(long, len(s))
	}
	if most != 24 || deepest != 12 {
		t.Errorf("at most %d words, %d deep, texts of %d bytes", most, deepest, long)
	}
}

// spaced is signs as a text, with something between them wherever it must be, and more here and there.
func spaced(r *rand.Rand, l []string) string {
	s := ""
	for i, g := range l {
		if i > 0 && (isWord(g) && (isWord(s[len(s)-1:]) || strings.HasSuffix(s, "?")) || r.Intn(2) == 0) {
			s += []string{" ", "\n", "\t", "  ", " \n"}[r.Intn(5)]
		}
		s += g
	}
	return s
}

// Qu1, Qu3: many texts that look like chance and are the same in every run: of requests that may be, with a few signs changed, and of any signs.
func TestChance(t *testing.T) {
	r := rand.New(rand.NewSource(92))
	count := map[api.Errno]int{}
	for i := range 6000 {
		q := chanceRequest(r)
		if len(q.Query.Atoms) > 2 {
			q.Query.Atoms = q.Query.Atoms[:2]
		}
		if len(q.Changes) > 8 {
			q.Changes = q.Changes[:8]
		}
		l := spelt(t, textBy(q))
		for range r.Intn(4) {
			at := r.Intn(len(l))
			g := vocabulary[r.Intn(len(vocabulary))]
			switch r.Intn(4) {
			case 0:
				l[at] = g
			case 1:
				l = slices.Insert(l, at, g)
			case 2:
				l = slices.Delete(l, at, min(at+1+r.Intn(3), len(l)))
			case 3:
				l = slices.Insert(l, at, slices.Clone(l[at:min(at+1+r.Intn(4), len(l))])...)
			}
			if len(l) == 0 {
				break
			}
		}
		if len(l) > 150 {
			l = l[:150]
		}
		s := spaced(r, l)
		if i%50 == 0 && len(s) > 0 {
			s = s[:len(s)/2] + ";" + s[len(s)/2:]
		}
		count[held(t, s)]++
	}
	for range 3000 {
		var l []string
		for range r.Intn(12) {
			l = append(l, vocabulary[r.Intn(len(vocabulary))])
		}
		count[held(t, spaced(r, l))]++
	}
	for _, e := range []api.Errno{api.OK, api.ErrSign, api.ErrParse, api.ErrBound, api.ErrArg} {
		if count[e] < 10 {
			t.Errorf("answered %d: %d times (%v)", e, count[e], count)
		}
	}
}

// longWords is a query that may be, of 144 words of these lengths.
func longWords(lengths []int) api.Request {
	r := rows("a b c d e f")
	for i := range 6 {
		p := api.Path{Kind: api.PathSeq}
		for _, n := range lengths[24*i : 24*i+24] {
			p.Kids = append(p.Kids, star(plus(maybe(star(plus(wd(strings.Repeat("w", n))))))))
		}
		r.Query.Atoms = append(r.Query.Atoms, atom("?"+string(rune('a'+i)), p, "?a"))
	}
	return r
}

// ofLength is a query that may be whose text has a length.
func ofLength(length int) api.Request {
	lengths := slices.Repeat([]int{16}, 144)
	more := len(textBy(longWords(lengths))) - length
	for i := range lengths {
		cut := min(more, 15)
		lengths[i] -= cut
		more -= cut
	}
	return longWords(lengths)
}

// Qu3: requests whose text is 4095, 4096 and 4097 bytes long, and longer.
func TestPrintLength(t *testing.T) {
	for _, length := range []int{4000, 4094, 4095, 4096, 4097, 4098, 4200} {
		r := ofLength(length)
		s, e := query.Print(r)
		if len(s) != length || e != api.OK {
			t.Fatalf("Print: %d bytes, %d, want %d bytes", len(s), e, length)
		}
		round(t, r)
		if again, at, e := query.Parse(s); (e == api.OK) != (length <= 4096) || at != 0 || sameRequest(again, r) != (length <= 4096) {
			t.Errorf("Parse of %d bytes: %d, %d", length, at, e)
		}
	}
}

// someRequest is a request that looks like chance, and may be or not.
func someRequest(r *rand.Rand) api.Request {
	q := chanceRequest(r)
	for range r.Intn(3) {
		if q.Kind == api.AskBatch {
			c := &q.Changes[r.Intn(len(q.Changes))]
			switch r.Intn(6) {
			case 0:
				c.T.S = noWords[r.Intn(len(noWords))]
			case 1:
				c.T.P = noWords[r.Intn(len(noWords))]
			case 2:
				c.T.O = noWords[r.Intn(len(noWords))]
			case 3:
				q.Query.Vars = []string{"x"}
			case 4:
				q.Kind = api.AskRows
			case 5:
				q.Changes = slices.Repeat(q.Changes, 2)
			}
			if q.Kind != api.AskBatch {
				break
			}
			continue
		}
		a := &q.Query.Atoms[r.Intn(len(q.Query.Atoms))]
		p := &a.Path
		for len(p.Kids) > 0 && r.Intn(3) > 0 {
			p = &p.Kids[r.Intn(len(p.Kids))]
		}
		switch r.Intn(10) {
		case 0:
			a.S.Name = noWords[r.Intn(len(noWords))]
		case 1:
			a.O.Name = noWords[r.Intn(len(noWords))]
		case 2:
			a.S.Var = !a.S.Var
		case 3:
			q.Query.Vars = append(q.Query.Vars, []string{"x", "y", "z", ""}[r.Intn(4)])
		case 4:
			p.Kind = r.Intn(9) - 1
		case 5:
			p.Word = append(noWords, "p")[r.Intn(len(noWords)+1)]
		case 6:
			p.Kids = append(p.Kids, wd("p"))
		case 7:
			p.Kids = p.Kids[:len(p.Kids)/2]
		case 8:
			*p = star(*p)
		case 9:
			q.Query.Atoms = append(q.Query.Atoms, q.Query.Atoms[0])
		}
	}
	return q
}

// Qu2, Qu3: many requests that look like chance, of which some may be.
func TestChanceRequests(t *testing.T) {
	r := rand.New(rand.NewSource(93))
	may := 0
	for range 20000 {
		q := someRequest(r)
		if mayBeBy(q) {
			round(t, q)
			may++
		} else {
			mayNot(t, "by chance", q)
		}
		if !slices.Equal(query.Names(q.Query), namesBy(q.Query)) {
			t.Fatalf("Names(%v): %v", q.Query, query.Names(q.Query))
		}
		if t.Failed() {
			t.Fatalf("%v", q)
		}
	}
	if may < 5000 || may > 15000 {
		t.Errorf("%d of 20000 may be", may)
	}
}

// R1: trees that are deep, broad, have themselves as kids, or are of no kind; all are answered, and soon.
func TestTreesHandedIn(t *testing.T) {
	deep := wd("p")
	for range 1000000 {
		deep = api.Path{Kind: api.PathStar, Kids: []api.Path{deep}}
	}
	loop := api.Path{Kind: api.PathStar, Kids: make([]api.Path, 1)}
	loop.Kids[0] = loop
	ring := api.Path{Kind: api.PathSeq, Kids: make([]api.Path, 2)}
	ring.Kids[0], ring.Kids[1] = ring, ring
	shared := wd("p")
	for range 11 {
		shared = api.Path{Kind: api.PathAlt, Kids: slices.Repeat([]api.Path{shared}, 1000)}
	}
	nothing := api.Path{}
	for range 11 {
		nothing = api.Path{Kind: api.PathSeq, Kids: slices.Repeat([]api.Path{nothing}, 1000)}
	}
	broad := api.Path{Kind: api.PathAlt, Kids: make([]api.Path, 3000000)}
	for i, p := range []api.Path{deep, loop, ring, shared, nothing, broad, {}, {Kind: api.PathWord}, {Kind: api.PathStar}, {Kind: -1, Word: "p"}, {Kind: 99, Kids: broad.Kids}} {
		for _, p := range []api.Path{p, star(p), seq(wd("a"), p), alt(p, p)} {
			r := rows("x", atom("?x", p, "?x"))
			mayNot(t, number("tree ", i), r)
			if l := query.Names(r.Query); !slices.Equal(l, []string{"x"}) {
				t.Errorf("tree %d: Names: %v", i, l)
			}
			r.Query.Atoms = slices.Repeat(r.Query.Atoms, 1000)
			mayNot(t, number("tree, again and again ", i), r)
		}
	}
	mayNot(t, "nothing", api.Request{})
	mayNot(t, "many empty atoms", api.Request{Kind: api.AskRows, Query: api.Query{Vars: []string{""}, Atoms: make([]api.Atom, 300000)}})
	mayNot(t, "many empty changes", api.Request{Kind: api.AskBatch, Changes: make([]api.Change, 3000000)})
}

// R1: texts that are as deep and as broad as 4096 bytes let them be.
func TestHardTexts(t *testing.T) {
	head := "select?x where{?x "
	for _, piece := range []string{"(", ")", "p*", "(p|", "p/", "p|", "*", "?", "?x", "((p/", "{", "}", ".", "select ", "insert a p b."} {
		for _, s := range []string{"", head, "insert ", "select "} {
			s += strings.Repeat(piece, (4096-len(s))/len(piece))
			r, at, e := query.Parse(s)
			if !sameRequest(r, api.Request{}) || e != api.ErrParse || at > len(s) {
				t.Errorf("Parse(%.40q..): %d, %d", s, at, e)
			}
		}
	}
	n := (4096 - len(head) - len("p?x}")) / 2
	reads(t, head+strings.Repeat("(", n)+"p"+strings.Repeat(")", n)+"?x}", rows("x", atom("?x", wd("p"), "?x")))
	refused(t, head+"p"+strings.Repeat("*", 4000)+"?x}", 0, api.ErrDeep)
	refused(t, head+strings.Repeat("(p/", 1000)+"p"+strings.Repeat(")", 1000)+"?x}", 0, api.ErrDeep)
	refused(t, head+strings.Repeat("p|", 2000)+"p?x}", 0, api.ErrDeep)
	refused(t, "select"+strings.Repeat("?x", 2000)+" where{?x p?x}", 0, api.ErrFull)
	refused(t, head+"p?x"+strings.Repeat(".a p b", 600)+"}", 0, api.ErrFull)
	refused(t, "insert a b c"+strings.Repeat(".insert a b c", 300), 0, api.ErrFull)
}

// R2: beside an error there is nothing, and without a fault no place.
func TestBesideErrors(t *testing.T) {
	for _, s := range append(slices.Clone(texts), "", ";", "select", "select ?x where { ?x p*/p ?x . ?y }", "select ?x ?x where { ?x p ?x }", "select ?y where { ?x p ?x }", asked([]string{"x"}, many("?x p b", 7)), asked([]string{"x"}, []string{"?x " + chain("/", 25) + " a"}), changes(65), strings.Repeat(" ", 4097)) {
		r, at, e := query.Parse(s)
		if e != api.OK && !sameRequest(r, api.Request{}) {
			t.Errorf("Parse(%.60q): %v beside %d", s, r, e)
		}
		if e != api.ErrParse && e != api.ErrSign && at != 0 {
			t.Errorf("Parse(%.60q): %d beside %d", s, at, e)
		}
		if e == api.OK && r.Kind == api.AskBatch && (len(r.Query.Vars) != 0 || len(r.Query.Atoms) != 0) || e == api.OK && r.Kind == api.AskRows && len(r.Changes) != 0 {
			t.Errorf("Parse(%.60q): %v", s, r)
		}
	}
}

// copied is a request that shares no list with another one.
func copied(r api.Request) api.Request {
	var path func(p api.Path) api.Path
	path = func(p api.Path) api.Path {
		p.Kids = slices.Clone(p.Kids)
		for i, kid := range p.Kids {
			p.Kids[i] = path(kid)
		}
		return p
	}
	r.Query.Vars = slices.Clone(r.Query.Vars)
	r.Query.Atoms = slices.Clone(r.Query.Atoms)
	r.Changes = slices.Clone(r.Changes)
	for i := range r.Query.Atoms {
		r.Query.Atoms[i].Path = path(r.Query.Atoms[i].Path)
	}
	return r
}

// R3: nothing that is handed in is changed, and nothing behind a list's end is read or changed.
func TestHandedIn(t *testing.T) {
	r := rand.New(rand.NewSource(94))
	for range 2000 {
		q := someRequest(r)
		was := copied(q)
		query.Check(q)
		query.Print(q)
		query.Names(q.Query)
		if !sameRequest(q, was) {
			t.Fatalf("%v was changed to %v", was, q)
		}
	}
	roomy := func(p api.Path) api.Path {
		p.Kids = append(p.Kids, wd("behind"), api.Path{Kind: 9})[:len(p.Kids)]
		return p
	}
	all := whole()
	q := &all.Query
	for i := range q.Atoms {
		q.Atoms[i].Path = roomy(q.Atoms[i].Path)
		for k := range q.Atoms[i].Path.Kids {
			q.Atoms[i].Path.Kids[k] = roomy(q.Atoms[i].Path.Kids[k])
		}
	}
	q.Vars = append(q.Vars, "x", "no word")[:2]
	q.Atoms = append(q.Atoms, api.Atom{S: term("?behind")})[:2]
	all.Changes = make([]api.Change, 0, 3)
	round(t, all)
	if l := query.Names(*q); !slices.Equal(l, []string{"x", "y"}) {
		t.Errorf("Names: %v", l)
	}
	if q.Vars[:4][3] != "no word" || q.Atoms[:3][2].S.Name != "behind" || q.Atoms[0].Path.Kids[:4][2].Word != "behind" || all.Changes[:3][1] != (api.Change{}) {
		t.Error("what lies behind a list's end was changed")
	}
	few := batch(append(done().Changes, insert("no word", "", ""))[:2]...)
	round(t, few)
	if few.Changes[:3][2].T.S != "no word" {
		t.Error("what lies behind the changes was changed")
	}
}

// pieces are all texts of a request.
func pieces(r api.Request) (l []string) {
	var path func(p api.Path)
	path = func(p api.Path) {
		l = append(l, p.Word)
		for _, kid := range p.Kids {
			path(kid)
		}
	}
	l = append(l, r.Query.Vars...)
	for _, a := range r.Query.Atoms {
		l = append(l, a.S.Name, a.O.Name)
		path(a.Path)
	}
	for _, c := range r.Changes {
		l = append(l, c.T.S, c.T.P, c.T.O)
	}
	return l
}

// inside tells whether a text is a piece of another one's memory.
func inside(piece, s string) bool {
	if piece == "" || s == "" {
		return false
	}
	from, at := uintptr(unsafe.Pointer(unsafe.StringData(s))), uintptr(unsafe.Pointer(unsafe.StringData(piece)))
	return at >= from && at < from+uintptr(len(s))
}

// R3: an answer is new memory: it shares none with an argument, nor with another answer.
func TestMemory(t *testing.T) {
	for _, s := range texts {
		first, _, _ := query.Parse(s)
		second, _, _ := query.Parse(s)
		want := copied(second)
		for _, piece := range pieces(first) {
			if inside(piece, s) {
				t.Errorf("Parse(%q): %q is a piece of the text", s, piece)
			}
		}
		names := query.Names(first.Query)
		for _, n := range names {
			for _, piece := range pieces(first) {
				if inside(n, piece) {
					t.Errorf("Names: %q is a piece of the query", n)
				}
			}
		}
		wantNames := slices.Clone(names)
		spoil(&first)
		if !sameRequest(second, want) || !slices.Equal(names, wantNames) {
			t.Errorf("Parse(%q): two answers share memory", s)
		}
		if third, _, _ := query.Parse(s); !sameRequest(third, want) {
			t.Errorf("Parse(%q): a third answer is another one", s)
		}
		text, _ := query.Print(second)
		for _, piece := range pieces(second) {
			if inside(piece, text) {
				t.Errorf("Print: %q is a piece of the request", piece)
			}
		}
		again := query.Names(second.Query)
		for i := range again {
			again[i] = "spoilt"
		}
		if !sameRequest(second, want) || len(again) > 0 && query.Names(second.Query)[0] == "spoilt" {
			t.Error("Names: an answer shares memory")
		}
	}
}

// spoil changes all lists of a request.
func spoil(r *api.Request) {
	for i := range r.Query.Vars {
		r.Query.Vars[i] = "spoilt"
	}
	var path func(p *api.Path)
	path = func(p *api.Path) {
		for i := range p.Kids {
			path(&p.Kids[i])
			p.Kids[i] = api.Path{}
		}
		_ = append(p.Kids, api.Path{Kind: 9})
	}
	for i := range r.Query.Atoms {
		path(&r.Query.Atoms[i].Path)
		r.Query.Atoms[i] = api.Atom{}
	}
	for i := range r.Changes {
		r.Changes[i] = api.Change{}
	}
}

// R3: no two lists of one answer share memory: what is put behind the end of one is in no other.
func TestListsApart(t *testing.T) {
	for _, s := range texts {
		r, _, _ := query.Parse(s)
		want := copied(r)
		var path func(p api.Path)
		path = func(p api.Path) {
			for _, kid := range p.Kids {
				path(kid)
			}
			room := p.Kids[:cap(p.Kids)]
			for i := len(p.Kids); i < len(room); i++ {
				room[i] = api.Path{Kind: 9}
			}
		}
		for _, a := range r.Query.Atoms {
			path(a.Path)
		}
		if !sameRequest(r, want) {
			t.Errorf("Parse(%q): two lists share memory", s)
		}
	}
}

// R3: a text that is a piece of another one is not read beyond its end.
func TestPieces(t *testing.T) {
	all := "insert a p bob . delete c q d"
	reads(t, all[:12], batch(insert("a", "p", "b")))
	reads(t, all[:14], batch(insert("a", "p", "bob")))
	refused(t, all[:11], 11, api.ErrParse)
	refused(t, all[:16], 16, api.ErrParse)
	reads(t, all[17:], batch(remove("c", "q", "d")))
	all = "select ?x where { ?x p ?xy } ;"
	reads(t, all[:28], rows("x", atom("?x", wd("p"), "?xy")))
	refused(t, all[:27], 27, api.ErrParse)
	refused(t, all, 29, api.ErrSign)
}

// R4: what is answered hangs on the argument alone, whatever was asked ahead.
func TestSideBySide(t *testing.T) {
	l := append(slices.Clone(texts), "", ";", "select ?x where", "select ?x ?x where { ?x p ?x }", "select ?y where { ?x p ?x }", "select ?x where { ?x p************* ?x }", strings.Repeat("a ", 3000), changes(64), changes(65))
	for _, a := range l {
		for _, b := range l {
			r, at, e := query.Parse(a)
			other, _, _ := query.Parse(b)
			query.Print(other)
			query.Names(other.Query)
			query.Check(other)
			again, atAgain, eAgain := query.Parse(strings.Clone(a))
			if !sameRequest(r, again) || at != atAgain || e != eAgain {
				t.Errorf("Parse(%.60q), behind %.60q: %v, %d, %d", a, b, again, atAgain, eAgain)
			}
			one, eOne := query.Print(r)
			two, eTwo := query.Print(copied(again))
			if one != two || eOne != eTwo || !slices.Equal(query.Names(r.Query), query.Names(again.Query)) {
				t.Errorf("Print(%v): %q, %q", r, one, two)
			}
		}
	}
}

// FuzzParse: whatever a text is, it is answered as the chapter says.
func FuzzParse(f *testing.F) {
	for _, s := range texts {
		f.Add(s)
	}
	for _, s := range []string{"", ";", "select ?x where { ?x p** ?x . }", "select ?y where { ?x ((p)) ?x }", changes(65), asked(many("v", 7), many("?x p/q|r b", 7)), "select ?x where { ?x " + nest(13, true) + " ?x }"} {
		f.Add(s)
	}
	f.Fuzz(func(t *testing.T, s string) {
		if len(s) > 1000 && len(s) <= 4096 {
			return // the plain reading takes too long
		}
		held(t, s)
	})
}

// FuzzRequest: whatever a request is, it is answered as the chapter says; what looks like chance is taken from a number.
func FuzzRequest(f *testing.F) {
	for seed := range int64(20) {
		f.Add(seed)
	}
	f.Fuzz(func(t *testing.T, seed int64) {
		q := someRequest(rand.New(rand.NewSource(seed)))
		if mayBeBy(q) {
			round(t, q)
		} else {
			mayNot(t, "by chance", q)
		}
	})
}
