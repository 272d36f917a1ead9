package flow

import (
	"slices"
	"strconv"
	"strings"

	"sinew/api"
	"sinew/check"
	"sinew/query"
)

// The kinds of notes.
const (
	kindBegin = 10 + iota
	kindTold
	kindStep
	kindVertex
	kindEdge
	kindWay
	kindPair
	kindSize
	kindRow
	kindMany
)

// mostTexts is how many texts a note has at most: of words each, its bytes are fewer than 2^15, which is what a line takes.
const mostTexts = 1500

// asked is what is tried: a query, of a version.
type asked struct {
	try     int
	version int
	query   api.Query
}

// mayBe tells whether it may be tried.
func (a asked) mayBe() bool {
	if a.try < 1 || a.try > mostTry || a.version < 0 || a.version > mostVersion {
		return false
	}
	return query.Check(api.Request{Kind: api.AskRows, Query: a.query}) == api.OK
}

// note is the beginning note. It has a row an atom, not the query's text: that may be longer than can be read.
func (a asked) note() api.Note {
	n := api.Note{Kind: kindBegin, Nums: []int{a.try, a.version}, Texts: slices.Clone(a.query.Vars)}
	for _, x := range a.query.Atoms {
		n.Rows = append(n.Rows, []string{termText(x.S), pathText(x.Path), termText(x.O)})
	}
	n.Nums = append(n.Nums, sumOf(n))
	return n
}

// sumOf is a sum of all that a beginning note says, by which it is none any more once a piece of it is another one, though that may be, too.
func sumOf(n api.Note) int {
	var l []string
	for _, num := range n.Nums {
		l = append(l, strconv.Itoa(num))
	}
	l = append(l, n.Texts...)
	for _, row := range n.Rows {
		l = append(l, row...)
	}
	return check.Sum(strings.Join(l, " "))
}

// readAsked is what a beginning note says; false, if it is none.
func readAsked(n api.Note) (asked, bool) {
	if len(n.Nums) != 3 || len(n.Texts) > api.MaxVars || len(n.Rows) > api.MaxAtoms {
		return asked{}, false
	}
	a := asked{try: n.Nums[0], version: n.Nums[1]}
	for _, name := range n.Texts {
		a.query.Vars = append(a.query.Vars, strings.Clone(name))
	}
	for _, row := range n.Rows {
		x, ok := readAtom(row)
		if !ok {
			return asked{}, false
		}
		a.query.Atoms = append(a.query.Atoms, x)
	}
	// There is but one note of what may be tried: what else could be read in the same way is none.
	if !a.mayBe() || !sameNote(n, a.note()) {
		return asked{}, false
	}
	return a, true
}

// readAtom is the atom of a row; false, if it is none.
func readAtom(row []string) (api.Atom, bool) {
	if len(row) != 3 {
		return api.Atom{}, false
	}
	p, ok := readPath(row[1])
	return api.Atom{S: readTerm(row[0]), Path: p, O: readTerm(row[2])}, ok
}

// termText is a term as a request has it.
func termText(t api.Term) string {
	if t.Var {
		return "?" + t.Name
	}
	return t.Name
}

// readTerm is the term of a text, be it one that may be or not.
func readTerm(s string) api.Term {
	name, ok := strings.CutPrefix(s, "?")
	return api.Term{Var: ok, Name: strings.Clone(name)}
}

// What stands around the path in the shortest query that has one: layer 9 reads and writes no path alone.
const (
	aheadOfPath  = "select ?x where { ?x "
	behindOfPath = " ?x }"
)

// pathText is a path that may be as a request has it.
func pathText(p api.Path) string {
	x := api.Term{Var: true, Name: "x"}
	q := api.Query{Vars: []string{x.Name}, Atoms: []api.Atom{{S: x, Path: p, O: x}}}
	s, _ := query.Print(api.Request{Kind: api.AskRows, Query: q})
	return strings.TrimSuffix(strings.TrimPrefix(s, aheadOfPath), behindOfPath)
}

// readPath is the path of a text; false, if it is none.
func readPath(s string) (api.Path, bool) {
	r, _, e := query.Parse(aheadOfPath + s + behindOfPath)
	if e != api.OK || len(r.Query.Atoms) != 1 {
		return api.Path{}, false
	}
	return r.Query.Atoms[0].Path, true
}

// sameNote tells whether two notes say the same.
func sameNote(a, b api.Note) bool {
	return a.Kind == b.Kind && slices.Equal(a.Nums, b.Nums) && slices.Equal(a.Texts, b.Texts) &&
		slices.EqualFunc(a.Rows, b.Rows, slices.Equal[[]string])
}
