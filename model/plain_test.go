package model_test

import (
	"maps"
	"slices"

	"sinew/api"
)

// What the chapter says, read plainly and by other means than the program's: what the tests hold it against.

// isWordBy tells whether a text is a word.
func isWordBy(s string) bool {
	for _, b := range []byte(s) {
		if (b < 'a' || b > 'z') && (b < '0' || b > '9') && b != '-' && b != ':' {
			return false
		}
	}
	return len(s) >= 1 && len(s) <= 16
}

// wordsOf are a path's words, from left to right.
func wordsOf(p api.Path) []string {
	if p.Kind == api.PathWord {
		return []string{p.Word}
	}
	var l []string
	for _, kid := range p.Kids {
		l = append(l, wordsOf(kid)...)
	}
	return l
}

// deepOf is how deep a path is.
func deepOf(p api.Path) int {
	deep := 0
	for _, kid := range p.Kids {
		deep = max(deep, deepOf(kid))
	}
	return deep + 1
}

// formedBy tells whether each part of a path has kids and a word as its kind wants them.
func formedBy(p api.Path) bool {
	for _, kid := range p.Kids {
		if !formedBy(kid) {
			return false
		}
	}
	n := len(p.Kids)
	switch p.Kind {
	case api.PathWord:
		return n == 0 && isWordBy(p.Word)
	case api.PathSeq, api.PathAlt:
		return n > 1 && p.Word == ""
	case api.PathStar, api.PathPlus, api.PathMaybe:
		return n == 1 && p.Word == ""
	}
	return false
}

// pathMayBeBy tells whether a path may be, as layer 9's words say.
func pathMayBeBy(p api.Path) bool {
	return formedBy(p) && len(wordsOf(p)) <= 24 && deepOf(p) <= 12
}

// namesBy are the variables of a query's atoms, each once.
func namesBy(q api.Query) (l []string) {
	for _, a := range q.Atoms {
		for _, t := range []api.Term{a.S, a.O} {
			if t.Var && !slices.Contains(l, t.Name) {
				l = append(l, t.Name)
			}
		}
	}
	return l
}

// queryMayBeBy tells whether the request of a query may be, as layer 9's words say.
func queryMayBeBy(q api.Query) bool {
	for _, a := range q.Atoms {
		if !pathMayBeBy(a.Path) || !isWordBy(a.S.Name) || !isWordBy(a.O.Name) {
			return false
		}
	}
	names := namesBy(q)
	for i, v := range q.Vars {
		if !isWordBy(v) || !slices.Contains(names, v) || slices.Contains(q.Vars[i+1:], v) {
			return false
		}
	}
	between := func(n, most int) bool { return n >= 1 && n <= most }
	return between(len(q.Vars), 6) && between(len(q.Atoms), 6) && len(names) <= 6
}

// verticesBy are the subjects and objects of facts, each once, rising.
func verticesBy(facts []api.Triple) (l []string) {
	for _, f := range facts {
		l = append(l, f.S, f.O)
	}
	slices.Sort(l)
	return slices.Compact(l)
}

// two is a pair of vertices.
type two struct{ from, to string }

// relation is pairs of vertices.
type relation map[two]bool

// behind are the pairs of which one of a leads where one of b leads on.
func behind(a, b relation) relation {
	from := map[string][]string{}
	for x := range b {
		from[x.from] = append(from[x.from], x.to)
	}
	all := relation{}
	for x := range a {
		for _, to := range from[x.to] {
			all[two{x.from, to}] = true
		}
	}
	return all
}

// often are the pairs of a, one behind the other, once or oftener.
func often(a relation) relation {
	all := maps.Clone(a)
	for {
		n := len(all)
		maps.Copy(all, behind(all, a))
		if len(all) == n {
			return all
		}
	}
}

// leadsBy are the pairs of vertices between which a path leads, put together of those of its kids; it needs no automaton.
func leadsBy(facts []api.Triple, p api.Path) relation {
	itself := relation{}
	for _, v := range verticesBy(facts) {
		itself[two{v, v}] = true
	}
	all := relation{}
	switch p.Kind {
	case api.PathWord:
		for _, f := range facts {
			if f.P == p.Word {
				all[two{f.S, f.O}] = true
			}
		}
	case api.PathSeq:
		all = itself
		for _, kid := range p.Kids {
			all = behind(all, leadsBy(facts, kid))
		}
	case api.PathAlt:
		for _, kid := range p.Kids {
			maps.Copy(all, leadsBy(facts, kid))
		}
	case api.PathPlus:
		all = often(leadsBy(facts, p.Kids[0]))
	case api.PathStar:
		all = often(leadsBy(facts, p.Kids[0]))
		maps.Copy(all, itself)
	case api.PathMaybe:
		all = leadsBy(facts, p.Kids[0])
		maps.Copy(all, itself)
	}
	return all
}

// willDo tells whether words, one behind the other, will do for a path, by cutting in all ways.
func willDo(p api.Path, l []string) bool {
	switch p.Kind {
	case api.PathWord:
		return len(l) == 1 && l[0] == p.Word
	case api.PathSeq:
		return kidsWillDo(p.Kids, l)
	case api.PathAlt:
		return slices.ContainsFunc(p.Kids, func(kid api.Path) bool { return willDo(kid, l) })
	case api.PathMaybe:
		return len(l) == 0 || willDo(p.Kids[0], l)
	case api.PathStar:
		return len(l) == 0 || oftenWillDo(p.Kids[0], l)
	case api.PathPlus:
		return oftenWillDo(p.Kids[0], l)
	}
	return false
}

// kidsWillDo tells whether words will do for paths, one behind the other.
func kidsWillDo(kids []api.Path, l []string) bool {
	if len(kids) == 0 {
		return len(l) == 0
	}
	for at := range len(l) + 1 {
		if willDo(kids[0], l[:at]) && kidsWillDo(kids[1:], l[at:]) {
			return true
		}
	}
	return false
}

// oftenWillDo tells whether words will do for a path once or oftener. A cut with nothing ahead leads no further.
func oftenWillDo(kid api.Path, l []string) bool {
	if willDo(kid, l) {
		return true
	}
	for at := 1; at < len(l); at++ {
		if willDo(kid, l[:at]) && oftenWillDo(kid, l[at:]) {
			return true
		}
	}
	return false
}

// walkedBy are the pairs of vertices between which a path leads, by going over facts, one behind the other, in all ways, and asking of their predicates whether they will do. A shortest way comes to no vertex twice at the same word of the path, so none is longer than there are vertices times words.
func walkedBy(facts []api.Triple, p api.Path) relation {
	vertices := verticesBy(facts)
	most := len(vertices) * len(wordsOf(p))
	all := relation{}
	for _, from := range vertices {
		var goOn func(at string, l []string)
		goOn = func(at string, l []string) {
			if !all[two{from, at}] && willDo(p, l) {
				all[two{from, at}] = true
			}
			if len(l) == most {
				return
			}
			for _, f := range facts {
				if f.S == at {
					goOn(f.O, append(slices.Clone(l), f.P))
				}
			}
		}
		goOn(from, nil)
	}
	return all
}

// risingPairs are a relation's pairs as Pairs must tell them.
func risingPairs(a relation) [][]string {
	var l [][]string
	for x := range a {
		l = append(l, []string{x.from, x.to})
	}
	return risingRows(l)
}

// risingRows are rows, each once, by their first words, then their second ones, and so on.
func risingRows(l [][]string) [][]string {
	slices.SortFunc(l, slices.Compare)
	return slices.CompactFunc(l, slices.Equal)
}

// pairsBy is what Pairs must tell.
func pairsBy(facts []api.Triple, p api.Path) ([][]string, api.Errno) {
	if !pathMayBeBy(p) {
		return nil, api.ErrArg
	}
	return risingPairs(leadsBy(facts, p)), api.OK
}

// rowsBy is what Rows must tell: each choice of a vertex for each variable is tried.
func rowsBy(facts []api.Triple, q api.Query) ([][]string, api.Errno) {
	if !queryMayBeBy(q) {
		return nil, api.ErrArg
	}
	vertices, names := verticesBy(facts), namesBy(q)
	leads := make([]relation, len(q.Atoms))
	for i, a := range q.Atoms {
		leads[i] = leadsBy(facts, a.Path)
	}
	chosen := map[string]string{}
	word := func(t api.Term) string {
		if t.Var {
			return chosen[t.Name]
		}
		return t.Name
	}
	var l [][]string
	var choose func(rest []string)
	choose = func(rest []string) {
		if len(rest) > 0 {
			for _, v := range vertices {
				chosen[rest[0]] = v
				choose(rest[1:])
			}
			return
		}
		for i, a := range q.Atoms {
			if !leads[i][two{word(a.S), word(a.O)}] {
				return
			}
		}
		row := []string{}
		for _, v := range q.Vars {
			row = append(row, chosen[v])
		}
		l = append(l, row)
	}
	choose(names)
	if l = risingRows(l); len(l) > 4096 {
		return nil, api.ErrMany
	}
	return l, api.OK
}
