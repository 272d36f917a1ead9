package query_test

import (
	"slices"
	"strings"

	"sinew/api"
	"sinew/token"
)

// What the chapter says, read plainly and by other means than the program's: what the tests hold it against.

// grammar is the chapter's, as it stands there.
const grammar = `
request  query | batch
query    "select" NAME { NAME } "where" "{" atom { "." atom } [ "." ] "}"
atom     term path term
term     NAME | WORD
path     seq { "|" seq }
seq      post { "/" post }
post     prim { "*" | "+" | "?" }
prim     WORD | "(" path ")"
batch    change { "." change }
change   ( "insert" | "delete" ) WORD WORD WORD
`

// rules are ways to write each thing of the grammar, as lists of what stands one behind the other.
type rules map[string][][]string

// chapterRules are the grammar's; groups in it are things of their own, called by what encloses them and a number.
var chapterRules = func() rules {
	g := rules{}
	for _, line := range strings.Split(strings.TrimSpace(grammar), "\n") {
		l := strings.Fields(line)
		rest := g.add(l[0], l[1:])
		if len(rest) != 0 {
			panic("the grammar has a bracket too many: " + line)
		}
	}
	return g
}()

// add adds ways to write a thing, up to the end of its group, and is what is left behind that.
func (g rules) add(head string, l []string) []string {
	way := []string{}
	for len(l) > 0 {
		first := l[0]
		l = l[1:]
		switch first {
		case "|":
			g[head] = append(g[head], way)
			way = []string{}
		case "}", "]", ")":
			g[head] = append(g[head], way)
			return l
		case "{", "[", "(":
			group := head + first + string(rune('0'+len(g)/10)) + string(rune('0'+len(g)%10))
			g[group] = nil
			l = g.add(group, l)
			way = append(way, group)
			switch first {
			case "{":
				// Once more behind what is read, not ahead of what comes: so the sets stay small.
				for i, w := range g[group] {
					g[group][i] = append([]string{group}, w...)
				}
				g[group] = append(g[group], nil)
			case "[":
				g[group] = append(g[group], nil)
			}
		default:
			way = append(way, first)
		}
	}
	g[head] = append(g[head], way)
	return nil
}

// fits tells whether a sign is one that the grammar has there.
func fits(g api.Sign, want string) bool {
	switch {
	case want == "NAME":
		return g.Kind == api.SignName
	case want == "WORD":
		return g.Kind == api.SignWord
	case strings.HasPrefix(want, `"`):
		return g.Kind != api.SignName && want == `"`+g.Text+`"`
	}
	return false
}

// item is a way to write a thing, how much of it is read, and where it began.
type item struct {
	head string
	way  int
	done int
	from int
}

// chart is all that may be under way behind each sign (Earley's sets): one that is empty comes first behind a sign that cannot follow.
type chart struct {
	g    rules
	sets [][]item
}

// newChart is the chart of no sign.
func newChart() *chart {
	c := &chart{g: chapterRules, sets: make([][]item, 1)}
	c.begin("request", 0)
	c.close(0)
	return c
}

// put adds an item to a set, once.
func (c *chart) put(set int, i item) {
	if !slices.Contains(c.sets[set], i) {
		c.sets[set] = append(c.sets[set], i)
	}
}

// begin adds all ways to write a thing.
func (c *chart) begin(head string, set int) {
	for way := range c.g[head] {
		c.put(set, item{head, way, 0, set})
	}
}

// next is what stands next in an item: nothing, at its end.
func (c *chart) next(i item) string {
	way := c.g[i.head][i.way]
	if i.done == len(way) {
		return ""
	}
	return way[i.done]
}

// mayBeNothing tells whether a thing may be written as nothing.
func (c *chart) mayBeNothing(head string) bool {
	return slices.ContainsFunc(c.g[head], func(way []string) bool { return len(way) == 0 })
}

// close adds to a set all that follows from it.
func (c *chart) close(set int) {
	for k := 0; k < len(c.sets[set]); k++ {
		i := c.sets[set][k]
		next := c.next(i)
		switch {
		case next == "":
			for _, up := range c.sets[i.from] {
				if c.next(up) == i.head {
					up.done++
					c.put(set, up)
				}
			}
		case c.g[next] != nil:
			c.begin(next, set)
			if c.mayBeNothing(next) {
				i.done++
				c.put(set, i)
			}
		}
	}
}

// read adds a sign, and tells whether it can follow.
func (c *chart) read(g api.Sign) bool {
	set := len(c.sets)
	c.sets = append(c.sets, nil)
	for _, i := range c.sets[set-1] {
		if fits(g, c.next(i)) {
			i.done++
			c.put(set, i)
		}
	}
	c.close(set)
	return len(c.sets[set]) > 0
}

// whole tells whether the signs may end here.
func (c *chart) whole() bool {
	return slices.ContainsFunc(c.sets[len(c.sets)-1], func(i item) bool { return i.head == "request" && i.from == 0 && c.next(i) == "" })
}

// placeBy is the place of the first sign that cannot follow; -1, if there is none.
func placeBy(l []api.Sign, end int) int {
	c := newChart()
	for _, g := range l {
		if !c.read(g) {
			return g.At
		}
	}
	if !c.whole() {
		return end
	}
	return -1
}

// isMark tells whether a sign is a certain mark.
func isMark(g api.Sign, text string) bool {
	return g.Kind == api.SignMark && g.Text == text
}

// split are the pieces of signs between marks that stand in no brackets.
func split(l []api.Sign, mark string) [][]api.Sign {
	all := [][]api.Sign{nil}
	deep := 0
	for _, g := range l {
		switch {
		case isMark(g, "("):
			deep++
		case isMark(g, ")"):
			deep--
		case isMark(g, mark) && deep == 0:
			all = append(all, nil)
			continue
		}
		all[len(all)-1] = append(all[len(all)-1], g)
	}
	return all
}

// pathBy is the tree of a path's signs, from the outside: what binds the least is looked for first.
func pathBy(l []api.Sign) api.Path {
	for _, way := range []struct {
		mark string
		kind int
	}{{"|", api.PathAlt}, {"/", api.PathSeq}} {
		if parts := split(l, way.mark); len(parts) > 1 {
			p := api.Path{Kind: way.kind}
			for _, part := range parts {
				p.Kids = append(p.Kids, pathBy(part))
			}
			return p
		}
	}
	last := l[len(l)-1]
	for kind, mark := range postMarks {
		if isMark(last, mark) {
			return api.Path{Kind: kind, Kids: []api.Path{pathBy(l[:len(l)-1])}}
		}
	}
	if len(l) > 1 {
		return pathBy(l[1 : len(l)-1])
	}
	return api.Path{Kind: api.PathWord, Word: last.Text}
}

// postMarks are the marks behind a kid.
var postMarks = map[int]string{api.PathStar: "*", api.PathPlus: "+", api.PathMaybe: "?"}

// termBy is a sign as a term.
func termBy(g api.Sign) api.Term {
	return api.Term{Var: g.Kind == api.SignName, Name: g.Text}
}

// requestBy is the request of signs that are of the grammar.
func requestBy(l []api.Sign) (r api.Request) {
	if l[0].Text != "select" {
		r.Kind = api.AskBatch
		for _, c := range split(l, ".") {
			r.Changes = append(r.Changes, api.Change{Gone: c[0].Text == "delete", T: api.Triple{S: c[1].Text, P: c[2].Text, O: c[3].Text}})
		}
		return r
	}
	r.Kind = api.AskRows
	open := slices.IndexFunc(l, func(g api.Sign) bool { return isMark(g, "{") })
	for _, g := range l[1 : open-1] {
		r.Query.Vars = append(r.Query.Vars, g.Text)
	}
	for _, a := range split(l[open+1:len(l)-1], ".") {
		if len(a) > 0 {
			end := len(a) - 1
			r.Query.Atoms = append(r.Query.Atoms, api.Atom{S: termBy(a[0]), Path: pathBy(a[1:end]), O: termBy(a[end])})
		}
	}
	return r
}

// wordsOf is how many words a path has.
func wordsOf(p api.Path) int {
	if p.Kind == api.PathWord {
		return 1
	}
	n := 0
	for _, kid := range p.Kids {
		n += wordsOf(kid)
	}
	return n
}

// deepOf is how deep a path is.
func deepOf(p api.Path) int {
	n := 0
	for _, kid := range p.Kids {
		n = max(n, deepOf(kid))
	}
	return n + 1
}

// namesBy are the variables of a query's atoms.
func namesBy(q api.Query) (l []string) {
	for _, a := range q.Atoms {
		for _, t := range []api.Term{a.S, a.O} {
			if t.Var && !slices.Contains(l, t.Name) {
				l = append(l, t.Name)
			}
		}
	}
	return l
}

// alike tells whether two of a list are alike.
func alike(l []string) bool {
	l = slices.Sorted(slices.Values(l))
	return len(slices.Compact(l)) < len(l)
}

// faultBy is what Qu1 names of a request behind the grammar, in its order.
func faultBy(r api.Request) api.Errno {
	q := r.Query
	for _, a := range q.Atoms {
		if wordsOf(a.Path) > 24 || deepOf(a.Path) > 12 {
			return api.ErrDeep
		}
	}
	names := namesBy(q)
	if len(q.Vars) > 6 || len(q.Atoms) > 6 || len(names) > 6 || len(r.Changes) > 64 {
		return api.ErrFull
	}
	if alike(q.Vars) {
		return api.ErrArg
	}
	for _, v := range q.Vars {
		if !slices.Contains(names, v) {
			return api.ErrBound
		}
	}
	return api.OK
}

// parseBy is what Parse must answer.
func parseBy(s string) (api.Request, int, api.Errno) {
	l, at, e := token.Signs(s)
	if e != api.OK {
		return api.Request{}, at, e
	}
	if at = placeBy(l, len(s)); at >= 0 {
		return api.Request{}, at, api.ErrParse
	}
	r := requestBy(l)
	if e = faultBy(r); e != api.OK {
		return api.Request{}, 0, e
	}
	return r, 0, api.OK
}

// isWord tells whether a text is a word.
func isWord(s string) bool {
	return 1 <= len(s) && len(s) <= 16 && strings.Trim(s, "abcdefghijklmnopqrstuvwxyz0123456789-:") == ""
}

// pathMayBeBy tells whether a path may be, but for its limits.
func pathMayBeBy(p api.Path) bool {
	n := len(p.Kids)
	switch p.Kind {
	case api.PathWord:
		return n == 0 && isWord(p.Word)
	case api.PathSeq, api.PathAlt:
		if n < 2 {
			return false
		}
	case api.PathStar, api.PathPlus, api.PathMaybe:
		if n != 1 {
			return false
		}
	default:
		return false
	}
	return p.Word == "" && !slices.ContainsFunc(p.Kids, func(kid api.Path) bool { return !pathMayBeBy(kid) })
}

// mayBeBy tells whether a request may be.
func mayBeBy(r api.Request) bool {
	all := slices.Clone(r.Query.Vars)
	for _, a := range r.Query.Atoms {
		if !pathMayBeBy(a.Path) {
			return false
		}
		all = append(all, a.S.Name, a.O.Name)
	}
	for _, c := range r.Changes {
		all = append(all, c.T.S, c.T.P, c.T.O)
	}
	if slices.ContainsFunc(all, func(s string) bool { return !isWord(s) }) || faultBy(r) != api.OK {
		return false
	}
	vars, atoms, changes := len(r.Query.Vars), len(r.Query.Atoms), len(r.Changes)
	return r.Kind == api.AskRows && vars > 0 && atoms > 0 && changes == 0 || r.Kind == api.AskBatch && vars == 0 && atoms == 0 && changes > 0
}

// isPost tells whether a kind of path is of the kinds with a mark behind their kid.
func isPost(kind int) bool {
	return kind == api.PathStar || kind == api.PathPlus || kind == api.PathMaybe
}

// inBrackets tells whether a kid is in brackets, in the chapter's own words.
func inBrackets(kid, within int) bool {
	switch {
	case kid == api.PathAlt:
		return true
	case kid == api.PathSeq:
		return within == api.PathSeq || isPost(within)
	case isPost(kid):
		return isPost(within)
	}
	return false
}

// pathTextBy is a path's text.
func pathTextBy(p api.Path) string {
	if p.Kind == api.PathWord {
		return p.Word
	}
	s := ""
	for i, kid := range p.Kids {
		if i > 0 {
			s += map[int]string{api.PathAlt: "|", api.PathSeq: "/"}[p.Kind]
		}
		if inBrackets(kid.Kind, p.Kind) {
			s += "(" + pathTextBy(kid) + ")"
		} else {
			s += pathTextBy(kid)
		}
	}
	return s + postMarks[p.Kind]
}

// termTextBy is a term's text.
func termTextBy(t api.Term) string {
	return map[bool]string{true: "?"}[t.Var] + t.Name
}

// textBy is the text of a request that may be.
func textBy(r api.Request) string {
	var l []string
	if r.Kind == api.AskBatch {
		for _, c := range r.Changes {
			l = append(l, map[bool]string{false: "insert ", true: "delete "}[c.Gone]+c.T.S+" "+c.T.P+" "+c.T.O)
		}
		return strings.Join(l, " . ")
	}
	for _, a := range r.Query.Atoms {
		l = append(l, termTextBy(a.S)+" "+pathTextBy(a.Path)+" "+termTextBy(a.O))
	}
	return "select ?" + strings.Join(r.Query.Vars, " ?") + " where { " + strings.Join(l, " . ") + " }"
}
