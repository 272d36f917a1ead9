package path_test

import (
	"fmt"
	"math"
	"math/rand"
	"slices"
	"strconv"
	"strings"
	"testing"
	"unsafe"

	"sinew/api"
	"sinew/path"
	"sinew/query"
)

// Paths, spelt out.

func wd(word string) api.Path { return api.Path{Kind: api.PathWord, Word: word} }

func seq(kids ...api.Path) api.Path { return api.Path{Kind: api.PathSeq, Kids: kids} }

func alt(kids ...api.Path) api.Path { return api.Path{Kind: api.PathAlt, Kids: kids} }

func star(kid api.Path) api.Path { return api.Path{Kind: api.PathStar, Kids: []api.Path{kid}} }

func plus(kid api.Path) api.Path { return api.Path{Kind: api.PathPlus, Kids: []api.Path{kid}} }

func maybe(kid api.Path) api.Path { return api.Path{Kind: api.PathMaybe, Kids: []api.Path{kid}} }

// parsed is the path of a text.
func parsed(t testing.TB, s string) api.Path {
	t.Helper()
	r, _, e := query.Parse("select ?x where { ?x " + s + " ?x }")
	if e != api.OK {
		t.Fatalf("%q is no path: %d", s, e)
	}
	return r.Query.Atoms[0].Path
}

// made is the automaton of a path that may be.
func made(t testing.TB, p api.Path) api.Auto {
	t.Helper()
	a, e := path.Of(p)
	if e != api.OK {
		t.Fatalf("Of(%.200v): %d", p, e)
	}
	return a
}

// numbers are those of a text, divided by blanks.
func numbers(s string) (l []int) {
	for _, f := range strings.Fields(s) {
		n, err := strconv.Atoi(f)
		if err != nil {
			panic(err)
		}
		l = append(l, n)
	}
	return l
}

// auto is an automaton, spelt out: its words divided by blanks, the lists of Follow by semicolons.
func auto(words, first, last, follow string, empty bool) api.Auto {
	a := api.Auto{Words: strings.Fields(words), First: numbers(first), Last: numbers(last), Empty: empty}
	if len(a.Words) == 0 && follow == "" {
		return a
	}
	for _, s := range strings.Split(follow, ";") {
		a.Follow = append(a.Follow, numbers(s))
	}
	return a
}

// sameAuto tells whether two automata are the same; nil and the empty list are.
func sameAuto(a, b api.Auto) bool {
	return slices.Equal(a.Words, b.Words) && slices.Equal(a.First, b.First) && slices.Equal(a.Last, b.Last) && slices.EqualFunc(a.Follow, b.Follow, slices.Equal) && a.Empty == b.Empty
}

// is must be the automaton of a path.
func is(t *testing.T, p api.Path, want api.Auto) {
	t.Helper()
	a, e := path.Of(p)
	if !sameAuto(a, want) || e != api.OK {
		t.Errorf("Of(%.200v): %v, %d, want %v", p, a, e, want)
	}
	if e := path.Check(a); e != api.OK {
		t.Errorf("Check(%v): %d", a, e)
	}
}

// refused must be how a path is answered that may not be.
func refused(t *testing.T, what string, p api.Path) {
	t.Helper()
	if a, e := path.Of(p); !sameAuto(a, api.Auto{}) || e != api.ErrArg {
		t.Errorf("%s: Of: %v, %d", what, a, e)
	}
}

// list are words, divided by blanks.
func list(s string) []string { return strings.Fields(s) }

// letters are words of one byte each.
func letters(s string) []string {
	if s == "" {
		return nil
	}
	return strings.Split(s, "")
}

// The chapter's example, and the document's fifth.
func TestExample(t *testing.T) {
	want := auto("p q", "0", "0 1", "1;1", false)
	is(t, seq(wd("p"), star(wd("q"))), want)
	is(t, parsed(t, "p/q*"), want)
	a := made(t, parsed(t, "p/q*"))
	if !path.Ends(a, 0) || !path.Ends(a, 1) || path.Ends(a, -1) {
		t.Error("p may be last, and q")
	}
}

// forms are paths, and their automata.
var forms = []struct {
	text string
	want api.Auto
}{
	// Each kind alone.
	{"a", auto("a", "0", "0", "", false)},
	{"a/b", auto("a b", "0", "1", "1;", false)},
	{"a|b", auto("a b", "0 1", "0 1", ";", false)},
	{"a*", auto("a", "0", "0", "0", true)},
	{"a+", auto("a", "0", "0", "0", false)},
	{"a?", auto("a", "0", "0", "", true)},
	{"a/b/c", auto("a b c", "0", "2", "1;2;", false)},
	{"a|b|c", auto("a b c", "0 1 2", "0 1 2", ";;", false)},
	// Each within PathStar, PathPlus and PathMaybe.
	{"(a/b)*", auto("a b", "0", "1", "1;0", true)},
	{"(a|b)*", auto("a b", "0 1", "0 1", "0 1;0 1", true)},
	{"a**", auto("a", "0", "0", "0", true)},
	{"a+*", auto("a", "0", "0", "0", true)},
	{"a?*", auto("a", "0", "0", "0", true)},
	{"(a/b)+", auto("a b", "0", "1", "1;0", false)},
	{"(a|b)+", auto("a b", "0 1", "0 1", "0 1;0 1", false)},
	{"a*+", auto("a", "0", "0", "0", true)},
	{"a++", auto("a", "0", "0", "0", false)},
	{"a?+", auto("a", "0", "0", "0", true)},
	{"(a/b)?", auto("a b", "0", "1", "1;", true)},
	{"(a|b)?", auto("a b", "0 1", "0 1", ";", true)},
	{"a*?", auto("a", "0", "0", "0", true)},
	{"a+?", auto("a", "0", "0", "0", true)},
	{"a??", auto("a", "0", "0", "", true)},
	// Each within PathSeq, ahead and behind.
	{"(a/b)/c", auto("a b c", "0", "2", "1;2;", false)},
	{"a/(b/c)", auto("a b c", "0", "2", "1;2;", false)},
	{"(a|b)/c", auto("a b c", "0 1", "2", "2;2;", false)},
	{"a/(b|c)", auto("a b c", "0", "1 2", "1 2;;", false)},
	{"a*/b", auto("a b", "0 1", "1", "0 1;", false)},
	{"a/b*", auto("a b", "0", "0 1", "1;1", false)},
	{"a+/b", auto("a b", "0", "1", "0 1;", false)},
	{"a/b+", auto("a b", "0", "1", "1;1", false)},
	{"a?/b", auto("a b", "0 1", "1", "1;", false)},
	{"a/b?", auto("a b", "0", "0 1", "1;", false)},
	// Each within PathAlt, ahead and behind.
	{"(a/b)|c", auto("a b c", "0 2", "1 2", "1;;", false)},
	{"a|(b/c)", auto("a b c", "0 1", "0 2", ";2;", false)},
	{"(a|b)|c", auto("a b c", "0 1 2", "0 1 2", ";;", false)},
	{"a|(b|c)", auto("a b c", "0 1 2", "0 1 2", ";;", false)},
	{"a*|b", auto("a b", "0 1", "0 1", "0;", true)},
	{"a|b*", auto("a b", "0 1", "0 1", ";1", true)},
	{"a+|b", auto("a b", "0 1", "0 1", "0;", false)},
	{"a|b+", auto("a b", "0 1", "0 1", ";1", false)},
	{"a?|b", auto("a b", "0 1", "0 1", ";", true)},
	{"a|b?", auto("a b", "0 1", "0 1", ";", true)},
	// Kids that let nothing do, at the beginning, in the midst and at the end of a PathSeq.
	{"a?/b/c", auto("a b c", "0 1", "2", "1;2;", false)},
	{"a/b?/c", auto("a b c", "0", "2", "1 2;2;", false)},
	{"a/b/c?", auto("a b c", "0", "1 2", "1;2;", false)},
	{"a?/b?/c", auto("a b c", "0 1 2", "2", "1 2;2;", false)},
	{"a/b?/c?", auto("a b c", "0", "0 1 2", "1 2;2;", false)},
	{"a?/b/c?", auto("a b c", "0 1", "1 2", "1;2;", false)},
	{"a?/b?/c?", auto("a b c", "0 1 2", "0 1 2", "1 2;2;", true)},
	{"a*/b*/c*", auto("a b c", "0 1 2", "0 1 2", "0 1 2;1 2;2", true)},
	{"a/b*/c*/d", auto("a b c d", "0", "3", "1 2 3;1 2 3;2 3;", false)},
	{"a/b?/c/d?/e", auto("a b c d e", "0", "4", "1 2;2;3 4;4;", false)},
	{"a/(b?/c?)/d", auto("a b c d", "0", "3", "1 2 3;2 3;3;", false)},
	{"a/(b?|c)/d", auto("a b c d", "0", "3", "1 2 3;3;3;", false)},
	{"(a*/b)?/c", auto("a b c", "0 1 2", "2", "0 1;2;", false)},
	{"a/(b*|c+)+/d", auto("a b c d", "0", "3", "1 2 3;1 2 3;1 2 3;", false)},
	{"a?/(b?/c?)", auto("a b c", "0 1 2", "0 1 2", "1 2;2;", true)},
	// Words that stand at two places.
	{"a/a", auto("a a", "0", "1", "1;", false)},
	{"a|a", auto("a a", "0 1", "0 1", ";", false)},
	{"(a|b)/a*", auto("a b a", "0 1", "0 1 2", "2;2;2", false)},
	{"b/a/b/a", auto("b a b a", "0", "3", "1;2;3;", false)},
	{"a*/a*/a", auto("a a a", "0 1 2", "2", "0 1 2;1 2;", false)},
	// A star and a plus within another one: places ahead come behind, and each of them once.
	{"((a|b)*/c)*", auto("a b c", "0 1 2", "2", "0 1 2;0 1 2;0 1 2", true)},
	{"(a*/b*)*", auto("a b", "0 1", "0 1", "0 1;0 1", true)},
	{"(a*/b*)**", auto("a b", "0 1", "0 1", "0 1;0 1", true)},
	{"(a/b+)+*", auto("a b", "0", "1", "1;0 1", true)},
	{"(c/(a|b)*)+", auto("c a b", "0", "0 1 2", "0 1 2;0 1 2;0 1 2", false)},
	{"((a+/b)+/c)+", auto("a b c", "0", "2", "0 1;0 2;0", false)},
	{"(a/(b/(c/d?)*)*)*", auto("a b c d", "0", "0 1 2 3", "0 1;0 1 2;0 1 2 3;0 1 2", true)},
	// All together.
	{"(p|q/r?)+", auto("p q r", "0 1", "0 1 2", "0 1;0 1 2;0 1", false)},
	{"a/b|c/d", auto("a b c d", "0 2", "1 3", "1;;3;", false)},
	{"(a/b|c)*/d", auto("a b c d", "0 2 3", "3", "1;0 2 3;0 2 3;", false)},
	{"(a|b)?/(c|d)+", auto("a b c d", "0 1 2 3", "2 3", "2 3;2 3;2 3;2 3", false)},
}

// Pa1: the automata of paths, spelt out.
func TestForms(t *testing.T) {
	for _, f := range forms {
		p := parsed(t, f.text)
		is(t, p, f.want)
		if by := autoBy(p); !sameAuto(by, f.want) {
			t.Errorf("%s: the plain reading is %v", f.text, by)
		}
		if len(f.want.Words) <= 3 {
			if by := autoByLists(p); !sameAuto(by, f.want) {
				t.Errorf("%s: by its lists it is %v", f.text, by)
			}
		}
	}
}

// allPaths are all paths of so many parts, over two words; of PathSeq and PathAlt those with two and three kids.
func allPaths(parts int) []api.Path {
	by := [][]api.Path{nil, {wd("a"), wd("b")}}
	for n := 2; n <= parts; n++ {
		var l []api.Path
		for _, kid := range by[n-1] {
			l = append(l, star(kid), plus(kid), maybe(kid))
		}
		for i := 1; i < n-1; i++ {
			for _, x := range by[i] {
				for _, y := range by[n-1-i] {
					l = append(l, seq(x, y), alt(x, y))
				}
				for j := 1; i+j < n-1; j++ {
					for _, y := range by[j] {
						for _, z := range by[n-1-i-j] {
							l = append(l, seq(x, y, z), alt(x, y, z))
						}
					}
				}
			}
		}
		by = append(by, l)
	}
	return by[parts]
}

// allLists are all lists of at most so many of these letters.
func allLists(of string, most int) []string {
	all, last := []string{""}, []string{""}
	for range most {
		var next []string
		for _, s := range last {
			for _, b := range of {
				next = append(next, s+string(b))
			}
		}
		all, last = append(all, next...), next
	}
	return all
}

// Pa1: the automata of all short paths, against their lists.
func TestAllShort(t *testing.T) {
	n := 0
	for parts := 1; parts <= 5; parts++ {
		for _, p := range allPaths(parts) {
			want := autoByLists(p)
			is(t, p, want)
			if by := autoBy(p); !sameAuto(by, want) {
				t.Fatalf("%v: the plain readings differ: %v, %v", p, by, want)
			}
			n++
		}
		if t.Failed() {
			return
		}
	}
	if n != 2+6+26+142+850 {
		t.Errorf("%d paths", n)
	}
}

// chancePath is a path that looks like chance, of at most so many words and so deep.
func chancePath(r *rand.Rand, of []string, words, deep int) api.Path {
	if deep == 1 || r.Intn(5) == 0 {
		return wd(of[r.Intn(len(of))])
	}
	kind := 2 + r.Intn(5)
	if kind > 3 || words < 2 {
		return api.Path{Kind: 4 + kind%3, Kids: []api.Path{chancePath(r, of, words, deep-1)}}
	}
	p := api.Path{Kind: kind}
	for n := 2 + r.Intn(4); words > 0 && (n > 0 || len(p.Kids) < 2); n-- {
		most := words
		if len(p.Kids) == 0 {
			most--
		}
		kid := chancePath(r, of, most, deep-1)
		words -= len(wordsOf(kid))
		p.Kids = append(p.Kids, kid)
	}
	return p
}

// fewWords are words that often stand twice.
var fewWords = []string{"a", "b", "c"}

// manyWords are words of all bytes, and of the least and the most.
var manyWords = []string{"a", "z", "0", "9", "-", ":", "p", "q", "a-b:c", "select", "where", "sixteen-byte-wrd", "::::::::::::::::", "ab", "ba", "aa"}

// somePath is a path that looks like chance, and may be.
func somePath(r *rand.Rand) api.Path {
	return chancePath(r, [][]string{fewWords, manyWords}[r.Intn(2)], 1+r.Intn(24), 1+r.Intn(12))
}

// Pa1: many paths that look like chance and are the same in every run.
func TestChancePaths(t *testing.T) {
	r := rand.New(rand.NewSource(101))
	most, deepest := 0, 0
	for range 6000 {
		p := somePath(r)
		is(t, p, autoBy(p))
		if t.Failed() {
			return
		}
		most, deepest = max(most, len(wordsOf(p))), max(deepest, deepOf(p))
	}
	if most != 24 || deepest != 12 {
		t.Errorf("at most %d words, %d deep", most, deepest)
	}
}

// places are the places from one to another, as a text.
func places(from, to int) string {
	var l []string
	for i := from; i <= to; i++ {
		l = append(l, strconv.Itoa(i))
	}
	return strings.Join(l, " ")
}

// chained is a path of so many words, w0, w1, and so on, as kids of one kind, each within another one.
func chained(kind, n int, around func(api.Path) api.Path) api.Path {
	p := api.Path{Kind: kind}
	for i := range n {
		p.Kids = append(p.Kids, around(wd("w"+strconv.Itoa(i))))
	}
	return p
}

func bare(p api.Path) api.Path { return p }

// numbersOf is what a text is of each number.
func numbersOf(n int, mark string, text func(i int) string) string {
	var l []string
	for i := range n {
		l = append(l, text(i))
	}
	return strings.Join(l, mark)
}

// Pa1: paths of 1 and 24 words, and 12 deep.
func TestLimits(t *testing.T) {
	for n := 2; n <= 24; n++ {
		w := numbersOf(n, " ", func(i int) string { return "w" + strconv.Itoa(i) })
		all := places(0, n-1)
		none := strings.Repeat(";", n-1)
		end := strconv.Itoa(n - 1)
		next := numbersOf(n, ";", func(i int) string { return places(i+1, min(i+1, n-1)) })
		later := numbersOf(n, ";", func(i int) string { return places(i+1, n-1) })
		same := numbersOf(n, ";", func(i int) string { return places(i, n-1) })
		each := numbersOf(n, ";", func(int) string { return all })
		is(t, chained(api.PathSeq, n, bare), auto(w, "0", end, next, false))
		is(t, chained(api.PathAlt, n, bare), auto(w, all, all, none, false))
		is(t, chained(api.PathSeq, n, maybe), auto(w, all, all, later, true))
		is(t, chained(api.PathSeq, n, star), auto(w, all, all, same, true))
		is(t, plus(chained(api.PathAlt, n, bare)), auto(w, all, all, each, false))
		is(t, star(chained(api.PathSeq, n, maybe)), auto(w, all, all, each, true))
		is(t, star(chained(api.PathSeq, n, star)), auto(w, all, all, each, true))
	}
	p, often := wd("p"), wd("p")
	for range 11 {
		p, often = maybe(p), star(often)
	}
	is(t, p, auto("p", "0", "0", "", true))
	is(t, often, auto("p", "0", "0", "0", true))
	long := wd(strings.Repeat("z", 16))
	is(t, long, auto(long.Word, "0", "0", "", false))
	for _, kind := range []int{api.PathSeq, api.PathAlt} {
		for _, around := range []func(api.Path) api.Path{star, plus, maybe} {
			p := chained(kind, 24, bare)
			for range 10 {
				p = around(p)
			}
			is(t, p, autoBy(p))
			refused(t, "13 deep", around(p))
			p = chained(kind, 24, func(p api.Path) api.Path {
				for range 10 {
					p = around(p)
				}
				return p
			})
			is(t, p, autoBy(p))
			refused(t, "13 deep", around(p))
		}
	}
	deep := seq(wd("a"), wd("b"))
	for i := range 10 {
		deep = api.Path{Kind: api.PathSeq + i%2, Kids: []api.Path{wd("c"), deep, maybe(wd("d"))}[:2+i%2]}
	}
	is(t, deep, autoBy(deep))
	refused(t, "13 deep", alt(deep, wd("a")))
}

// noWords are texts that are no words.
var noWords = []string{"", "A", "a b", " ", "a ", "?a", "a.", "ä", "\x00", "a\xff", "_", strings.Repeat("a", 17), strings.Repeat("a", 1000)}

// within are paths that have another one somewhere.
func within(p api.Path) []api.Path {
	a, b := wd("a"), wd("b")
	return []api.Path{p, star(p), plus(p), maybe(p), seq(p, a), seq(a, p), seq(a, p, b), alt(p, a), alt(a, p), alt(a, p, b), star(seq(a, alt(b, p))), maybe(alt(plus(star(p)), a))}
}

// Pa1: paths that may not be, by each rule of layer 9's words.
func TestPathsMayNot(t *testing.T) {
	a := wd("a")
	var l []api.Path
	for _, kind := range []int{math.MinInt, -1, 0, 1, 2, 3, 4, 5, 6, 7, 8, 100, math.MaxInt} {
		for _, word := range append([]string{"a", "p"}, noWords...) {
			for kids := range 5 {
				l = append(l, api.Path{Kind: kind, Word: word, Kids: slices.Repeat([]api.Path{a}, kids)})
			}
		}
	}
	for n := 25; n < 60; n++ {
		l = append(l, chained(api.PathSeq, n, bare), chained(api.PathAlt, n, bare), chained(api.PathSeq, n, maybe))
	}
	l = append(l, seq(chained(api.PathAlt, 12, bare), chained(api.PathAlt, 13, bare)), alt(chained(api.PathSeq, 24, bare), a), api.Path{})
	for _, around := range []func(api.Path) api.Path{star, plus, maybe} {
		p := a
		for range 12 {
			p = around(p)
		}
		l = append(l, p)
	}
	may := 0
	for _, p := range l {
		for _, p := range within(p) {
			if pathMayBeBy(p) {
				may++
				is(t, p, autoBy(p))
				continue
			}
			refused(t, strconv.Itoa(p.Kind), p)
		}
	}
	// PathWord with the words a and p; without a word, PathSeq and PathAlt with 2 to 4 kids, the others with one.
	if want := (2 + 2*3 + 3) * len(within(a)); may != want {
		t.Errorf("%d may be, want %d", may, want)
	}
}

// brief is an automaton as text, without what is too long to be told.
func brief(a api.Auto) string {
	cut := func(l []int) []int { return l[:min(len(l), 30)] }
	b := api.Auto{First: cut(a.First), Last: cut(a.Last), Empty: a.Empty}
	for _, w := range a.Words[:min(len(a.Words), 30)] {
		b.Words = append(b.Words, w[:min(len(w), 20)])
	}
	for _, l := range a.Follow[:min(len(a.Follow), 30)] {
		b.Follow = append(b.Follow, cut(l))
	}
	return fmt.Sprintf("%+v (%d words)", b, len(a.Words))
}

// checked must be how an automaton is answered.
func checked(t *testing.T, what string, a api.Auto, want api.Errno) {
	t.Helper()
	if e := path.Check(a); e != want {
		t.Errorf("%s: Check(%s): %d, want %d", what, brief(a), e, want)
	}
	if by := autoMayBeBy(a); by != (want == api.OK) {
		t.Errorf("%s: %s: read plainly it may be: %t", what, brief(a), by)
	}
	if want == api.OK {
		return
	}
	for from := -2; from <= len(a.Words) && from < 30; from++ {
		for _, word := range append([]string{"a", "p", ""}, a.Words[:min(len(a.Words), 30)]...) {
			if l := path.Next(a, from, word); len(l) != 0 {
				t.Errorf("%s: Next(%s, %d, %.20q): %d places", what, brief(a), from, word, len(l))
			}
		}
		if path.Ends(a, from) {
			t.Errorf("%s: Ends(%s, %d)", what, brief(a), from)
		}
	}
	for _, l := range [][]string{nil, {}, {"a"}, {"a", "b"}, {"p"}, {"a", "a", "a"}, {""}, a.Words} {
		if path.Accepts(a, l) {
			t.Errorf("%s: Accepts(%s) of %d words", what, brief(a), len(l))
		}
	}
}

// copied is an automaton that shares no list with another one.
func copied(a api.Auto) api.Auto {
	a.Words, a.First, a.Last, a.Follow = slices.Clone(a.Words), slices.Clone(a.First), slices.Clone(a.Last), slices.Clone(a.Follow)
	for i := range a.Follow {
		a.Follow[i] = slices.Clone(a.Follow[i])
	}
	return a
}

// loop is an automaton of so many places, each with the word a, all first and last, each behind each, for which nothing will do.
func loop(n int) api.Auto {
	a := api.Auto{Empty: true}
	all := numbers(places(0, n-1))
	for range n {
		a.Words = append(a.Words, "a")
		a.Follow = append(a.Follow, slices.Clone(all))
	}
	a.First, a.Last = slices.Clone(all), slices.Clone(all)
	return a
}

// Pa1: automata that may be.
func TestCheck(t *testing.T) {
	for _, f := range forms {
		checked(t, f.text, f.want, api.OK)
		checked(t, f.text, made(t, parsed(t, f.text)), api.OK)
	}
	for n := range 25 {
		checked(t, "loop", loop(n), api.OK)
	}
	// The automaton without places.
	for _, a := range []api.Auto{{}, {Empty: true}, {Words: []string{}, First: []int{}, Last: []int{}, Follow: [][]int{}}} {
		checked(t, "without places", a, api.OK)
		if len(path.Next(a, -1, "a")) != 0 || path.Ends(a, -1) != a.Empty || path.Accepts(a, nil) != a.Empty || path.Accepts(a, []string{"a"}) {
			t.Errorf("without places: %v", a)
		}
	}
	// Automata that are of no path may be, too.
	for _, a := range []api.Auto{auto("a b", "", "", ";", false), auto("a b", "", "0", ";0", true), auto("a", "0", "", "", true), auto("a b c", "1", "2", "2;;0 1", false)} {
		checked(t, "of no path", a, api.OK)
	}
	r := rand.New(rand.NewSource(102))
	for range 3000 {
		checked(t, "by chance", made(t, somePath(r)), api.OK)
	}
}

// Pa1: automata that may not be.
func TestCheckMayNot(t *testing.T) {
	for _, n := range []int{25, 26, 100, 3000} {
		checked(t, "25 words and more", loop(n), api.ErrArg)
		a := api.Auto{Empty: true, Follow: make([][]int, n)}
		for range n {
			a.Words = append(a.Words, "a")
		}
		checked(t, "25 words and more", a, api.ErrArg)
		a.Follow = nil
		checked(t, "25 words and more", a, api.ErrArg)
		a.Words, a.Follow = a.Words[:24], make([][]int, 24)
		checked(t, "24 words", a, api.OK)
	}
	for _, n := range []int{1, 2, 3, 23, 24} {
		for _, no := range noWords {
			for at := range n {
				a := loop(n)
				a.Words[at] = no
				checked(t, "no word", a, api.ErrArg)
			}
		}
		for _, m := range []int{0, 1, 2, n - 1, n, n + 1, 2 * n, 24, 25, 1000} {
			a := loop(n)
			a.Follow = make([][]int, m)
			want := api.OK
			if m != n {
				want = api.ErrArg
			}
			checked(t, "as many Follow", a, want)
		}
		for _, bad := range badLists(n) {
			for at := -2; at < n; at++ {
				a := loop(n)
				*listAt(&a, at) = bad
				checked(t, "a list", a, api.ErrArg)
			}
		}
	}
	for _, bad := range [][]int{{0}, {-1}, {1}, {math.MinInt}, {math.MaxInt}, {0, 1}} {
		checked(t, "First without places", api.Auto{First: bad, Empty: true}, api.ErrArg)
		checked(t, "Last without places", api.Auto{Last: bad, Empty: true}, api.ErrArg)
		checked(t, "Follow without places", api.Auto{Follow: [][]int{bad}, Empty: true}, api.ErrArg)
	}
	checked(t, "Follow without places", api.Auto{Follow: make([][]int, 1), Empty: true}, api.ErrArg)
}

// listAt is one of an automaton's lists of places: First at -2, Last at -1, Follow of each place.
func listAt(a *api.Auto, at int) *[]int {
	switch at {
	case -2:
		return &a.First
	case -1:
		return &a.Last
	}
	return &a.Follow[at]
}

// badLists are lists that are none of places, of so many that there are.
func badLists(n int) [][]int {
	all := numbers(places(0, n-1))
	l := [][]int{{n}, {-1}, {n + 1}, {math.MinInt}, {math.MaxInt}, {math.MinInt, 0}, {0, math.MaxInt}, {0, math.MinInt}, {0, 0}, {n - 1, n - 1}, {-1, 0}, {0, n}, {n, 0}, append(slices.Clone(all), n), append([]int{-1}, all...), append(slices.Clone(all), n-1), append(slices.Clone(all), 0), slices.Repeat(all, 2), {24}, {25}, {31}, {32}, {64}, {1 << 32}, {0, 1 << 32}}
	if n > 1 {
		down := slices.Clone(all)
		slices.Reverse(down)
		l = append(l, down, []int{1, 0}, []int{n - 1, 0}, []int{0, 1, 1}, []int{0, 1, 0}, []int{0, 0, 1}, []int{0, n - 1, n - 2})
	}
	for at := range n {
		twice := slices.Insert(slices.Clone(all), at, at)
		l = append(l, twice)
		out := slices.Clone(all)
		out[at] = n
		l = append(l, out)
		under := slices.Clone(all)
		under[at] = -1
		l = append(l, under)
	}
	return l
}

// goes must be what Next tells.
func goes(t *testing.T, a api.Auto, from int, word string, want string) {
	t.Helper()
	if l := path.Next(a, from, word); !slices.Equal(l, numbers(want)) {
		t.Errorf("Next(%v, %d, %q): %v, want %s", a, from, word, l, want)
	}
}

// Pa2: Next and Ends, spelt out.
func TestNext(t *testing.T) {
	a := made(t, parsed(t, "(p|q/r?)+"))
	goes(t, a, -1, "p", "0")
	goes(t, a, -1, "q", "1")
	goes(t, a, -1, "r", "")
	goes(t, a, 0, "p", "0")
	goes(t, a, 0, "q", "1")
	goes(t, a, 0, "r", "")
	goes(t, a, 1, "p", "0")
	goes(t, a, 1, "q", "1")
	goes(t, a, 1, "r", "2")
	goes(t, a, 2, "p", "0")
	goes(t, a, 2, "q", "1")
	goes(t, a, 2, "r", "")
	twice := made(t, parsed(t, "(a|b|a)/(b|a)*/a?"))
	goes(t, twice, -1, "a", "0 2")
	goes(t, twice, -1, "b", "1")
	goes(t, twice, 0, "a", "4 5")
	goes(t, twice, 1, "a", "4 5")
	goes(t, twice, 3, "b", "3")
	goes(t, twice, 4, "a", "4 5")
	goes(t, twice, 5, "a", "")
	goes(t, twice, 5, "b", "")
	for from := -1; from < 6; from++ {
		for _, word := range append([]string{"c", "aa", "ab", "a ", "A"}, noWords...) {
			goes(t, twice, from, word, "")
		}
		if path.Ends(twice, from) != (from >= 0) {
			t.Errorf("Ends(%d)", from)
		}
	}
	for _, from := range outside(6) {
		goes(t, twice, from, "a", "")
		goes(t, loop(6), from, "a", "")
		if path.Ends(twice, from) || path.Ends(loop(6), from) {
			t.Errorf("Ends(%d)", from)
		}
	}
	goes(t, loop(24), -1, "a", places(0, 23))
	goes(t, loop(24), 23, "a", places(0, 23))
}

// outside are numbers that are no places, of so many that there are.
func outside(n int) []int {
	return []int{-2, -3, n, n + 1, 24, 25, 31, 32, 33, 63, 64, -32, -64, 1 << 32, 1<<32 + 1, -1 << 32, 1<<32 - 1, math.MaxInt, math.MinInt, math.MinInt + 1}
}

// Pa2: Empty is what Ends tells of the beginning, and Accepts of no words, whatever else there is.
func TestEmpty(t *testing.T) {
	for _, f := range forms {
		for _, empty := range []bool{false, true} {
			a := copied(f.want)
			a.Empty = empty
			if path.Ends(a, -1) != empty || path.Accepts(a, nil) != empty || path.Accepts(a, []string{}) != empty {
				t.Errorf("%s: Ends, Accepts of an automaton with Empty %t", f.text, empty)
			}
			for at := range a.Words {
				if path.Ends(a, at) != slices.Contains(a.Last, at) {
					t.Errorf("%s: Ends(%d)", f.text, at)
				}
			}
		}
	}
}

// takes must be whether an automaton accepts words.
func takes(t *testing.T, a api.Auto, words string, want bool) {
	t.Helper()
	if path.Accepts(a, list(words)) != want {
		t.Errorf("Accepts(%v, %q): %t", a, words, !want)
	}
}

// Pa2: Accepts, spelt out.
func TestAccepts(t *testing.T) {
	for _, c := range []struct{ text, yes, no string }{
		{"p", "p", ", q, p p, p q, pp"},
		{"p/q*", "p, p q, p q q q q", ", q, q p, p p, p q p, p q q x q"},
		{"p|q", "p, q", ", p q, q p, p p, r"},
		{"p?", ", p", "p p, q, p q"},
		{"p+", "p, p p, p p p p p p p", ", q, p q, p p q, q p, p q p"},
		{"p*", ", p, p p, p p p p p p p", "q, p q, p p q, q p, p q p"},
		{"p/q/r", "p q r", ", p, p q, p q r r, q r, r, p r, p q q r, p q r p q r"},
		{"(p/q)*", ", p q, p q p q, p q p q p q", "p, q, p q p, p p q q, q p, p q q"},
		{"(a|b)*/a/(a|b)", "a a, a b, b a a, a a a, a b b a b, b b b b a a", ", a, b, b b, a b b, a a b b, a a c, c a a"},
		{"a*/a*/a", "a, a a, a a a a a", ", b, a b, b a, a a b a"},
		{"(a/b|a/c)", "a b, a c", "a, b, c, a b c, a a"},
		{"(a/a|a)/b", "a b, a a b", ", a, b, a a, a a a b, b b, a b b"},
		{"select/where?", "select, select where", ", where, select select, where select, select where where"},
	} {
		a := made(t, parsed(t, c.text))
		for _, words := range strings.Split(c.yes, ",") {
			takes(t, a, words, true)
		}
		for _, words := range strings.Split(c.no, ",") {
			takes(t, a, words, false)
		}
		for _, no := range noWords {
			for _, words := range strings.Split(c.yes, ",") {
				for at := range len(list(words)) + 1 {
					if path.Accepts(a, slices.Insert(list(words), at, no)) {
						t.Errorf("%s accepts %q with %q at %d", c.text, words, no, at)
					}
				}
			}
		}
	}
	// Two ways lead to one place, of which each alone would do, or leave the automaton; none is told where no way goes on.
	a := auto("a a b", "0 1", "2", "2;2;", false)
	takes(t, a, "a b", true)
	takes(t, a, "a a b", false)
	takes(t, a, "a", false)
	a = auto("a a b c", "0 1", "2 3", "2;3;;", false)
	takes(t, a, "a b", true)
	takes(t, a, "a c", true)
	takes(t, a, "a b c", false)
	// A last place that no way leads to, and a way to no last place.
	takes(t, auto("a b", "0", "1", ";", false), "b", false)
	takes(t, auto("a b", "0", "1", ";", false), "a b", false)
	takes(t, auto("a b", "0 1", "", "0 1;0 1", false), "a b a", false)
	takes(t, auto("a b", "", "0 1", "0 1;0 1", false), "a", false)
}

// someAuto is an automaton that looks like chance, of lists that rise.
func someAuto(r *rand.Rand) api.Auto {
	n := r.Intn(25)
	if r.Intn(2) == 0 {
		n = r.Intn(5)
	}
	thick := 1 + r.Intn(10)
	some := func() (l []int) {
		for i := range n {
			if r.Intn(10) < thick {
				l = append(l, i)
			}
		}
		return l
	}
	a := api.Auto{First: some(), Last: some(), Empty: r.Intn(2) == 0}
	for range n {
		a.Words = append(a.Words, fewWords[r.Intn(3)])
		a.Follow = append(a.Follow, some())
	}
	return a
}

// anyAuto is an automaton that looks like chance, and may be or not.
func anyAuto(r *rand.Rand) api.Auto {
	a := someAuto(r)
	for range r.Intn(3) {
		switch r.Intn(6) {
		case 0:
			a.Words = append(a.Words, fewWords[0])
		case 1:
			a.Follow = append(a.Follow, []int{0})
		case 2:
			if n := len(a.Words); n > 0 {
				a.Words[r.Intn(n)] = noWords[r.Intn(len(noWords))]
			}
		default:
			l := listAt(&a, r.Intn(len(a.Follow)+2)-2)
			if len(*l) > 0 && r.Intn(2) == 0 {
				(*l)[r.Intn(len(*l))] += r.Intn(5) - 2
			} else {
				*l = append(*l, r.Intn(30)-2)
			}
		}
	}
	return a
}

// held tells whether an automaton is answered as the chapter says.
func held(t *testing.T, r *rand.Rand, a api.Auto) (may bool) {
	t.Helper()
	may = autoMayBeBy(a)
	if e := path.Check(a); (e == api.OK) != may || e != api.OK && e != api.ErrArg {
		t.Fatalf("Check(%v): %d", a, e)
	}
	words := append([]string{"d", ""}, fewWords...)
	for from := -3; from < len(a.Words)+3; from++ {
		for _, word := range words {
			if l, want := path.Next(a, from, word), nextBy(a, from, word); !slices.Equal(l, want) {
				t.Fatalf("Next(%v, %d, %q): %v, want %v", a, from, word, l, want)
			}
		}
		if path.Ends(a, from) != endsBy(a, from) {
			t.Fatalf("Ends(%v, %d): %t", a, from, !endsBy(a, from))
		}
	}
	for n := range 8 {
		l := make([]string, n)
		for i := range l {
			l[i] = words[(2+r.Intn(3)+r.Intn(40)/39)%5]
		}
		if path.Accepts(a, l) != acceptsBy(a, l) {
			t.Fatalf("Accepts(%v, %v): %t", a, l, !acceptsBy(a, l))
		}
	}
	return may
}

// Pa1, Pa2: many automata that look like chance, of which some may be.
func TestChanceAutos(t *testing.T) {
	r := rand.New(rand.NewSource(103))
	may := 0
	for range 8000 {
		if held(t, r, someAuto(r)) {
			may++
		}
	}
	if may != 8000 {
		t.Errorf("%d of 8000 may be", may)
	}
	may = 0
	for range 8000 {
		if held(t, r, anyAuto(r)) {
			may++
		}
	}
	if may < 2000 || may > 6000 {
		t.Errorf("%d of 8000 may be", may)
	}
}

// Pa3: of all short paths, all short lists of words.
func TestJustThose(t *testing.T) {
	lists := allLists("abc", 4)
	yes, no := 0, 0
	for parts := 1; parts <= 5; parts++ {
		for _, p := range allPaths(parts) {
			a := made(t, p)
			will := listsOf(p, 4)
			for _, s := range lists {
				ok := path.Accepts(a, letters(s))
				if ok != will[s] || ok != willDo(p, letters(s)) {
					t.Fatalf("%v accepts %q: %t", p, s, ok)
				}
				if ok {
					yes++
				} else {
					no++
				}
			}
		}
	}
	if yes < 5000 || no < 5000 {
		t.Errorf("%d will do, %d not", yes, no)
	}
}

// walked is a list of words along which chance leads through a path; it will do.
func walked(r *rand.Rand, p api.Path) (l []string) {
	switch p.Kind {
	case api.PathWord:
		return []string{p.Word}
	case api.PathAlt:
		return walked(r, p.Kids[r.Intn(len(p.Kids))])
	case api.PathSeq:
		for _, kid := range p.Kids {
			l = append(l, walked(r, kid)...)
		}
		return l
	case api.PathMaybe:
		if r.Intn(3) == 0 {
			return nil
		}
		return walked(r, p.Kids[0])
	}
	n := 1
	if r.Intn(3) == 0 {
		n = r.Intn(4)
	}
	if p.Kind == api.PathPlus {
		n = max(n, 1)
	}
	for range n {
		l = append(l, walked(r, p.Kids[0])...)
	}
	return l
}

// changed is a list with a few words put in, left out, or others.
func changed(r *rand.Rand, l []string) []string {
	l = slices.Clone(l)
	for range 1 + r.Intn(2) {
		at := r.Intn(len(l) + 1)
		word := manyWords[r.Intn(len(manyWords))]
		if len(l) > 0 && r.Intn(3) > 0 {
			word = l[r.Intn(len(l))]
		}
		switch {
		case at == len(l) || r.Intn(3) == 0:
			l = slices.Insert(l, at, word)
		case r.Intn(2) == 0:
			l = slices.Delete(l, at, at+1)
		default:
			l[at] = word
		}
	}
	return l
}

// Pa3: many paths that look like chance, lists that will do for them, and lists that nearly would.
func TestChanceLists(t *testing.T) {
	r := rand.New(rand.NewSource(104))
	yes, no := 0, 0
	for range 3000 {
		p := somePath(r)
		a := made(t, p)
		for range 5 {
			l := walked(r, p)
			if !path.Accepts(a, l) {
				t.Fatalf("%v does not accept %v", p, l)
			}
			if len(l) > 40 {
				continue // cutting takes too long
			}
			if !willDo(p, l) {
				t.Fatalf("%v: by cutting, %v will not do", p, l)
			}
			l = changed(r, l)
			ok := path.Accepts(a, l)
			if ok != willDo(p, l) {
				t.Fatalf("%v accepts %v: %t", p, l, ok)
			}
			if ok {
				yes++
			} else {
				no++
			}
		}
	}
	if yes < 1000 || no < 1000 {
		t.Errorf("%d will do, %d not", yes, no)
	}
}

// Pa3: several stars one within another, and pluses and maybes with them.
func TestStars(t *testing.T) {
	lists := allLists("ab", 7)
	around := []func(api.Path) api.Path{star, plus, maybe}
	for _, inner := range []api.Path{wd("a"), seq(wd("a"), wd("b")), alt(wd("a"), seq(wd("b"), wd("b"))), seq(maybe(wd("a")), wd("b"))} {
		for _, one := range around {
			for _, two := range around {
				for _, three := range around {
					for _, p := range []api.Path{one(two(three(inner))), one(seq(two(inner), three(wd("a")))), one(seq(wd("b"), two(seq(wd("a"), three(inner)))))} {
						a := made(t, p)
						will := listsOf(p, 7)
						for _, s := range lists {
							if path.Accepts(a, letters(s)) != will[s] {
								t.Fatalf("%v accepts %q: %t", p, s, !will[s])
							}
						}
					}
				}
			}
		}
	}
	p := wd("a")
	for range 11 {
		p = star(p)
	}
	a := made(t, p)
	for n := range 50 {
		l := slices.Repeat([]string{"a"}, n)
		if !path.Accepts(a, l) || !willDo(p, l) || path.Accepts(a, append(l, "b")) || path.Accepts(a, append([]string{"b"}, l...)) {
			t.Errorf("eleven stars, %d words", n)
		}
	}
}

// Pa3: nothing will do alone for no path; for some it will do, for others not, and Empty tells which.
func TestNothing(t *testing.T) {
	for s, nothing := range map[string]bool{
		"p": false, "p?": true, "p*": true, "p+": false, "p?+": true, "p+?": true, "p*+": true,
		"p/q": false, "p?/q": false, "p/q?": false, "p?/q?": true, "p*/q?/r*": true, "p*/q?/r+": false, "p*/q/r*": false,
		"p|q": false, "p?|q": true, "p|q*": true, "p|q|r?": true, "p/q?|r": false, "(p?/q)*": true, "(p?/q)+": false, "(p?/q?)+": true, "(p|q)?/r?": true,
	} {
		p := parsed(t, s)
		a := made(t, p)
		if a.Empty != nothing || path.Ends(a, -1) != nothing || path.Accepts(a, nil) != nothing || willDo(p, nil) != nothing {
			t.Errorf("%s: nothing will do: %t", s, !nothing)
		}
		if len(a.First) == 0 || len(a.Last) == 0 {
			t.Errorf("%s: nothing will do alone: %v", s, a)
		}
	}
}

// R1: paths that are deep, broad, have themselves as kids, or are of no kind; all are answered, and soon.
func TestPathsHandedIn(t *testing.T) {
	deep := wd("p")
	for range 1000000 {
		deep = star(deep)
	}
	ownKid := api.Path{Kind: api.PathStar, Kids: make([]api.Path, 1)}
	ownKid.Kids[0] = ownKid
	ring := api.Path{Kind: api.PathSeq, Kids: make([]api.Path, 2)}
	ring.Kids[0], ring.Kids[1] = ring, ring
	shared := wd("p")
	for range 11 {
		shared = alt(slices.Repeat([]api.Path{shared}, 1000)...)
	}
	nothing := api.Path{}
	for range 11 {
		nothing = seq(slices.Repeat([]api.Path{nothing}, 1000)...)
	}
	broad := make([]api.Path, 3000000)
	for i, p := range []api.Path{deep, ownKid, ring, shared, nothing, alt(broad...), {Kind: 99, Kids: broad}, {Kind: api.PathWord, Word: "p", Kids: broad}, {Kind: api.PathStar, Kids: broad}, wd(strings.Repeat("p", 1<<24)), {}} {
		for _, p := range within(p) {
			refused(t, "tree "+strconv.Itoa(i), p)
		}
	}
	// The same kids twice: places are told apart.
	twice := seq(star(wd("a")), wd("b"))
	is(t, alt(twice, twice), auto("a b a b", "0 1 2 3", "1 3", "0 1;;2 3;", false))
}

// R1: automata of any lists, places that are not there, and long lists of words.
func TestAutosHandedIn(t *testing.T) {
	broad := make([]int, 3000000)
	rise := make([]int, 3000000)
	for i := range rise {
		rise[i] = i
	}
	long := make([]string, 3000000)
	for i := range long {
		long[i] = "a"
	}
	for _, l := range [][]int{broad, rise} {
		for at := -2; at < 3; at++ {
			a := loop(3)
			*listAt(&a, at) = l
			checked(t, "a long list", a, api.ErrArg)
		}
	}
	checked(t, "many words", api.Auto{Words: long, Follow: make([][]int, len(long)), Empty: true}, api.ErrArg)
	checked(t, "many Follow", api.Auto{Words: long[:2], Follow: make([][]int, 3000000), Empty: true}, api.ErrArg)
	a := loop(2)
	a.Words[1] = strings.Repeat("a", 1<<24)
	checked(t, "a long word", a, api.ErrArg)
	for _, n := range []int{1, 2, 24} {
		a := loop(n)
		if !path.Accepts(a, long) {
			t.Errorf("a loop of %d places does not accept a long list", n)
		}
		long[len(long)-1] = "b"
		if path.Accepts(a, long) {
			t.Errorf("a loop of %d places accepts a b", n)
		}
		long[len(long)-1] = "a"
		if path.Next(a, 0, a.Words[0]+strings.Repeat("a", 1<<20)) != nil {
			t.Error("a long word leads on")
		}
	}
	if path.Accepts(made(t, parsed(t, "a/a/a")), long) {
		t.Error("a long list is accepted by a/a/a")
	}
}

// R1: the zero values of all arguments.
func TestZero(t *testing.T) {
	refused(t, "no kind at all", api.Path{})
	if path.Check(api.Auto{}) != api.OK || len(path.Next(api.Auto{}, 0, "")) != 0 || path.Ends(api.Auto{}, 0) || path.Accepts(api.Auto{}, nil) || len(path.Next(api.Auto{}, -1, "")) != 0 || path.Ends(api.Auto{}, -1) {
		t.Error("of the automaton without places")
	}
}

// roomy is a list with something in the room behind its end.
func roomy[T any](l []T, behind T) []T {
	out := append(slices.Clone(l), behind, behind, behind)
	return out[:len(l)]
}

// R3: nothing that is handed in is changed, and nothing behind a list's end is read or changed.
func TestHandedIn(t *testing.T) {
	var spacious func(p api.Path) api.Path
	spacious = func(p api.Path) api.Path {
		kids := make([]api.Path, len(p.Kids))
		for i, kid := range p.Kids {
			kids[i] = spacious(kid)
		}
		p.Kids = roomy(kids, wd("behind"))
		return p
	}
	var same func(a, b api.Path) bool
	same = func(a, b api.Path) bool {
		if len(b.Kids) == len(a.Kids) {
			for _, p := range b.Kids[len(b.Kids) : len(b.Kids)+3] {
				if p.Word != "behind" || p.Kind != api.PathWord || p.Kids != nil {
					return false
				}
			}
		}
		return a.Kind == b.Kind && a.Word == b.Word && slices.EqualFunc(a.Kids, b.Kids, same)
	}
	for _, f := range forms {
		p := parsed(t, f.text)
		room := spacious(p)
		is(t, room, f.want)
		if !same(p, room) {
			t.Errorf("%s: Of changed the path", f.text)
		}
	}
	r := rand.New(rand.NewSource(105))
	for range 3000 {
		a := anyAuto(r)
		if r.Intn(2) == 0 {
			a = someAuto(r)
		}
		room := api.Auto{Words: roomy(a.Words, "a"), First: roomy(a.First, 0), Last: roomy(a.Last, 0), Follow: roomy(a.Follow, []int{0}), Empty: a.Empty}
		for i, l := range room.Follow {
			room.Follow[i] = roomy(l, 0)
		}
		want := copied(a)
		held(t, r, room)
		l := roomy([]string{"a", "b", "a"}, "behind")
		if path.Accepts(room, l) != acceptsBy(a, []string{"a", "b", "a"}) || !slices.Equal(l[:6], []string{"a", "b", "a", "behind", "behind", "behind"}) {
			t.Fatalf("Accepts(%v) of a piece of a list", a)
		}
		if !sameAuto(room, want) {
			t.Fatalf("%v was changed to %v", want, room)
		}
		n := len(a.Words)
		if !slices.Equal(room.Words[n:n+3], []string{"a", "a", "a"}) || len(room.Follow[:len(room.Follow)+3][len(room.Follow)]) != 1 {
			t.Fatal("what lies behind a list's end was changed")
		}
		for at := -2; at < len(room.Follow); at++ {
			l := *listAt(&room, at)
			if !slices.Equal(l[len(l):len(l)+3], []int{0, 0, 0}) {
				t.Fatal("what lies behind a list of places was changed")
			}
		}
	}
}

// inside tells whether a text is a piece of another one's memory.
func inside(piece, s string) bool {
	if piece == "" || s == "" {
		return false
	}
	from, at := uintptr(unsafe.Pointer(unsafe.StringData(s))), uintptr(unsafe.Pointer(unsafe.StringData(piece)))
	return at >= from && at < from+uintptr(len(s))
}

// spoil changes all lists of an automaton, with the room behind their ends.
func spoil(a api.Auto) {
	for at := -2; at < len(a.Follow); at++ {
		l := *listAt(&a, at)
		for i := range l[:cap(l)] {
			l[:cap(l)][i] = -7
		}
	}
	for i := range a.Words[:cap(a.Words)] {
		a.Words[:cap(a.Words)][i] = "SPOILT"
	}
	for i := range a.Follow[:cap(a.Follow)] {
		a.Follow[:cap(a.Follow)][i] = []int{-7}
	}
}

// R3: an answer's lists are new memory: they share none with an argument, nor with another answer.
func TestMemory(t *testing.T) {
	for _, f := range forms {
		p := parsed(t, f.text)
		first, second := made(t, p), made(t, p)
		for _, w := range first.Words {
			for _, piece := range wordsOf(p) {
				if inside(w, piece) {
					t.Errorf("%s: the word %q is a piece of the path", f.text, w)
				}
			}
		}
		spoil(first)
		if !sameAuto(second, f.want) {
			t.Errorf("%s: two answers share memory", f.text)
		}
		is(t, p, f.want)
		for from := -1; from < len(second.Words); from++ {
			for _, word := range fewWords {
				l := path.Next(second, from, word)
				want := slices.Clone(l)
				for i := range l[:cap(l)] {
					l[:cap(l)][i] = -7
				}
				if !sameAuto(second, f.want) || !slices.Equal(path.Next(second, from, word), want) {
					t.Errorf("%s: what Next tells shares memory", f.text)
				}
			}
		}
	}
	// All of First and of Follow, which could be handed out as they are.
	a := loop(24)
	for from := -1; from < 24; from++ {
		l := path.Next(a, from, "a")
		spare := path.Next(a, from, "a")
		for i := range l {
			l[i] = -7
		}
		if !sameAuto(a, loop(24)) || !slices.Equal(spare, numbers(places(0, 23))) {
			t.Fatalf("Next from %d shares memory", from)
		}
	}
}

// R3: no two lists of one answer share memory: what is done to one, and behind its end, is in no other.
func TestListsApart(t *testing.T) {
	for _, f := range forms {
		for at := -2; at < len(f.want.Words); at++ {
			a, want := made(t, parsed(t, f.text)), copied(f.want)
			l := *listAt(&a, at)
			for i := range l[:cap(l)] {
				l[:cap(l)][i] = -7
			}
			for i := range *listAt(&want, at) {
				(*listAt(&want, at))[i] = -7
			}
			if !sameAuto(a, want) {
				t.Errorf("%s: the list %d shares memory: %v", f.text, at, a)
			}
		}
	}
}

// R3: nil and the empty list are the same.
func TestNilAndEmpty(t *testing.T) {
	for _, f := range forms {
		a, b := copied(f.want), copied(f.want)
		for at := -2; at < len(a.Follow); at++ {
			if len(*listAt(&a, at)) == 0 {
				*listAt(&a, at), *listAt(&b, at) = nil, []int{}
			}
		}
		p, q := parsed(t, f.text), parsed(t, f.text)
		var empty func(p *api.Path)
		empty = func(p *api.Path) {
			if len(p.Kids) == 0 {
				p.Kids = []api.Path{}
			}
			for i := range p.Kids {
				empty(&p.Kids[i])
			}
		}
		empty(&q)
		is(t, p, f.want)
		is(t, q, f.want)
		checked(t, f.text, a, api.OK)
		checked(t, f.text, b, api.OK)
		for from := -1; from < len(a.Words); from++ {
			for _, word := range fewWords {
				if !slices.Equal(path.Next(a, from, word), path.Next(b, from, word)) {
					t.Errorf("%s: Next from %d", f.text, from)
				}
			}
		}
	}
}

// R4: what is answered hangs on the arguments alone, whatever was asked ahead.
func TestSideBySide(t *testing.T) {
	r := rand.New(rand.NewSource(106))
	type asked struct {
		p api.Path
		a api.Auto
		e api.Errno
	}
	var l []asked
	for range 300 {
		p := somePath(r)
		switch r.Intn(4) {
		case 0:
			p = seq(p)
		case 1:
			p = star(star(p))
		}
		a, e := path.Of(p)
		l = append(l, asked{p, a, e})
	}
	for range 3000 {
		x := l[r.Intn(len(l))]
		a, e := path.Of(x.p)
		if !sameAuto(a, x.a) || e != x.e {
			t.Fatalf("Of(%v): %v, %d, and ahead %v, %d", x.p, a, e, x.a, x.e)
		}
		y := l[r.Intn(len(l))]
		words := walked(r, l[0].p)
		for from := -1; from < 3; from++ {
			if !slices.Equal(path.Next(a, from, "a"), path.Next(copied(x.a), from, "a")) || path.Ends(a, from) != path.Ends(x.a, from) {
				t.Fatalf("Next and Ends of %v", a)
			}
			path.Next(y.a, from, "b")
		}
		if path.Accepts(a, words) != path.Accepts(copied(x.a), slices.Clone(words)) || path.Check(a) != path.Check(x.a) {
			t.Fatalf("Accepts and Check of %v", a)
		}
	}
}

// R4: many at once are answered as one alone.
func TestAtOnce(t *testing.T) {
	for _, f := range forms {
		p := parsed(t, f.text)
		t.Run(f.text, func(t *testing.T) {
			t.Parallel()
			for range 50 {
				is(t, p, f.want)
				for _, s := range allLists("ab", 3) {
					if path.Accepts(f.want, letters(s)) != willDo(p, letters(s)) {
						t.Errorf("%s: %q", f.text, s)
					}
				}
			}
		})
	}
}

// FuzzPath: whatever a path and a list of words are, they are answered as the chapter says.
func FuzzPath(f *testing.F) {
	for _, x := range forms {
		f.Add(x.text, "abc")
		f.Add(x.text, "aabbab")
	}
	f.Fuzz(func(t *testing.T, text, words string) {
		r, _, e := query.Parse("select ?x where { ?x " + text + " ?x }")
		if e != api.OK || len(words) > 30 {
			return
		}
		p, l := r.Query.Atoms[0].Path, letters(words)
		is(t, p, autoBy(p))
		if a := made(t, p); path.Accepts(a, l) != willDo(p, l) {
			t.Errorf("%s accepts %q: %t", text, l, path.Accepts(a, l))
		}
	})
}

// autoOf is an automaton of bytes, each a place, a word, or the end of a list.
func autoOf(b []byte) (a api.Auto) {
	lists := [][]int{nil}
	for _, x := range b {
		switch {
		case x < 32:
			last := &lists[len(lists)-1]
			*last = append(*last, int(x)-4)
		case x < 64:
			lists = append(lists, nil)
		default:
			a.Words = append(a.Words, string(rune(x)))
		}
	}
	a.First, lists = lists[0], lists[1:]
	if len(lists) > 0 {
		a.Last, a.Follow = lists[0], lists[1:]
	}
	a.Empty = len(b)%2 == 0
	return a
}

// FuzzAuto: whatever an automaton is, it is answered as the chapter says.
func FuzzAuto(f *testing.F) {
	f.Add([]byte{}, int64(0))
	f.Add([]byte("ab\x04\x05 \x05 \x05 \x04\x05"), int64(1))
	f.Add([]byte("aaa\x04\x06 \x05 \x05 \x04 \x04\x05\x06"), int64(2))
	f.Add([]byte("aA\x04 \x05 \x05 \x04\x04"), int64(3))
	f.Fuzz(func(t *testing.T, b []byte, seed int64) {
		held(t, rand.New(rand.NewSource(seed)), autoOf(b))
	})
}
