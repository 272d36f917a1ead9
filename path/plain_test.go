package path_test

import (
	"maps"
	"slices"

	"sinew/api"
)

// What the chapter says, read plainly and by other means than the program's: what the tests hold it against.

// isWordBy tells whether a text is a word.
func isWordBy(s string) bool {
	for _, b := range []byte(s) {
		if (b < 'a' || b > 'z') && (b < '0' || b > '9') && b != '-' && b != ':' {
			return false
		}
	}
	return len(s) >= 1 && len(s) <= 16
}

// wordsOf are a path's words, from left to right.
func wordsOf(p api.Path) []string {
	if p.Kind == api.PathWord {
		return []string{p.Word}
	}
	var l []string
	for _, kid := range p.Kids {
		l = append(l, wordsOf(kid)...)
	}
	return l
}

// deepOf is how deep a path is.
func deepOf(p api.Path) int {
	deep := 0
	for _, kid := range p.Kids {
		deep = max(deep, deepOf(kid))
	}
	return deep + 1
}

// formedBy tells whether each part of a path has kids and a word as its kind wants them.
func formedBy(p api.Path) bool {
	for _, kid := range p.Kids {
		if !formedBy(kid) {
			return false
		}
	}
	n := len(p.Kids)
	switch p.Kind {
	case api.PathWord:
		return n == 0 && isWordBy(p.Word)
	case api.PathSeq, api.PathAlt:
		return n > 1 && p.Word == ""
	case api.PathStar, api.PathPlus, api.PathMaybe:
		return n == 1 && p.Word == ""
	}
	return false
}

// pathMayBeBy tells whether a path may be, as layer 9's words say.
func pathMayBeBy(p api.Path) bool {
	return formedBy(p) && len(wordsOf(p)) <= 24 && deepOf(p) <= 12
}

// cut is a part of a path, from one of its kids on, and a piece of a list.
type cut struct {
	p              *api.Path
	kid, from, end int
}

// cuts reckons which pieces of a list will do for which parts of a path, by cutting in all ways; what was reckoned is kept.
type cuts struct {
	l    []string
	done map[cut]bool
}

// willDo tells whether a list of words will do for a path.
func willDo(p api.Path, l []string) bool {
	c := &cuts{l: l, done: map[cut]bool{}}
	return c.does(cut{p: &p, end: len(l)})
}

func (c *cuts) does(x cut) bool {
	if ok, there := c.done[x]; there {
		return ok
	}
	ok := c.reckon(x)
	c.done[x] = ok
	return ok
}

// kidDoes tells whether a piece will do for one of the kids.
func (c *cuts) kidDoes(x cut, kid, end int) bool {
	return c.does(cut{p: &x.p.Kids[kid], from: x.from, end: end})
}

func (c *cuts) reckon(x cut) bool {
	none := x.from == x.end
	switch x.p.Kind {
	case api.PathWord:
		return x.end-x.from == 1 && c.l[x.from] == x.p.Word
	case api.PathSeq:
		if x.kid == len(x.p.Kids) {
			return none
		}
		for at := x.from; at <= x.end; at++ {
			if c.kidDoes(x, x.kid, at) && c.does(cut{p: x.p, kid: x.kid + 1, from: at, end: x.end}) {
				return true
			}
		}
		return false
	case api.PathAlt:
		for kid := range x.p.Kids {
			if c.kidDoes(x, kid, x.end) {
				return true
			}
		}
		return false
	case api.PathMaybe:
		return none || c.kidDoes(x, 0, x.end)
	case api.PathStar:
		return none || c.kidDoes(x, 0, x.end) || c.more(x)
	case api.PathPlus:
		return c.kidDoes(x, 0, x.end) || c.more(x)
	}
	return false
}

// more tells whether a piece can be cut in two, of which the first will do for the kid and the other one for the whole. Neither is empty: an empty one leads no further.
func (c *cuts) more(x cut) bool {
	for at := x.from + 1; at < x.end; at++ {
		if c.kidDoes(x, 0, at) && c.does(cut{p: x.p, from: at, end: x.end}) {
			return true
		}
	}
	return false
}

// listsOf are all lists of at most so many words that will do for a path whose words have one byte each; a list is its words' bytes.
func listsOf(p api.Path, most int) map[string]bool {
	switch p.Kind {
	case api.PathWord:
		return map[string]bool{p.Word: true}
	case api.PathSeq:
		all := map[string]bool{"": true}
		for _, kid := range p.Kids {
			all = joins(all, listsOf(kid, most), most)
		}
		return all
	case api.PathAlt:
		all := map[string]bool{}
		for _, kid := range p.Kids {
			maps.Copy(all, listsOf(kid, most))
		}
		return all
	}
	once := listsOf(p.Kids[0], most)
	all := maps.Clone(once)
	if p.Kind != api.PathMaybe {
		for more := once; len(more) > 0; {
			next := joins(more, once, most)
			maps.DeleteFunc(next, func(s string, _ bool) bool { return all[s] })
			maps.Copy(all, next)
			more = next
		}
	}
	if p.Kind != api.PathPlus {
		all[""] = true
	}
	return all
}

// joins are all lists of one and one of others behind it, of at most so many words.
func joins(a, b map[string]bool, most int) map[string]bool {
	all := map[string]bool{}
	for x := range a {
		for y := range b {
			if len(x)+len(y) <= most {
				all[x+y] = true
			}
		}
	}
	return all
}

// numbered is a path of the same form whose words are all unlike: that of place 0 is `a`, that of place 1 `b`, and so on.
func numbered(p api.Path) api.Path {
	n := 0
	var walk func(p api.Path) api.Path
	walk = func(p api.Path) api.Path {
		if p.Kind == api.PathWord {
			p.Word = string(rune('a' + n))
			n++
			return p
		}
		p.Kids = slices.Clone(p.Kids)
		for i, kid := range p.Kids {
			p.Kids[i] = walk(kid)
		}
		return p
	}
	return walk(p)
}

// autoByLists is the automaton of a path, taken from the lists that will do: which places come first in them, last, and right behind each. Lists of twice as many words as there are places show all of it, as a shortest way comes to no place twice.
func autoByLists(p api.Path) api.Auto {
	a := api.Auto{Words: wordsOf(p)}
	n := len(a.Words)
	first, last, follow := map[int]bool{}, map[int]bool{}, make([]map[int]bool, n)
	for i := range follow {
		follow[i] = map[int]bool{}
	}
	for s := range listsOf(numbered(p), 2*n) {
		if s == "" {
			a.Empty = true
			continue
		}
		first[int(s[0]-'a')] = true
		last[int(s[len(s)-1]-'a')] = true
		for i := 1; i < len(s); i++ {
			follow[s[i-1]-'a'][int(s[i]-'a')] = true
		}
	}
	a.First, a.Last = rising(first), rising(last)
	for _, f := range follow {
		a.Follow = append(a.Follow, rising(f))
	}
	return a
}

// rising are the keys of a map, sorted.
func rising(m map[int]bool) []int {
	return slices.Sorted(maps.Keys(m))
}

// emptyBy tells whether nothing will do for a path.
func emptyBy(p api.Path) bool {
	return willDo(p, nil)
}

// firstBy are the places that may come first, of a path whose own places begin at one; lastBy those that may come last.
func firstBy(p api.Path, at int) (l []int) {
	if p.Kind == api.PathWord {
		return []int{at}
	}
	for _, kid := range p.Kids {
		l = append(l, firstBy(kid, at)...)
		at += len(wordsOf(kid))
		if p.Kind == api.PathSeq && !emptyBy(kid) {
			break
		}
	}
	return l
}

func lastBy(p api.Path, at int) (l []int) {
	if p.Kind == api.PathWord {
		return []int{at}
	}
	end := at + len(wordsOf(p))
	for _, kid := range slices.Backward(p.Kids) {
		end -= len(wordsOf(kid))
		l = append(l, lastBy(kid, end)...)
		if p.Kind == api.PathSeq && !emptyBy(kid) {
			break
		}
	}
	return l
}

// pairsBy are all pairs of places of which one may come right behind the other.
func pairsBy(p api.Path, at int) (l [][2]int) {
	begin := []int{}
	for _, kid := range p.Kids {
		begin = append(begin, at)
		l = append(l, pairsBy(kid, at)...)
		at += len(wordsOf(kid))
	}
	cross := func(a, b int) {
		for _, x := range lastBy(p.Kids[a], begin[a]) {
			for _, y := range firstBy(p.Kids[b], begin[b]) {
				l = append(l, [2]int{x, y})
			}
		}
	}
	switch p.Kind {
	case api.PathStar, api.PathPlus:
		cross(0, 0)
	case api.PathSeq:
		for a := range p.Kids {
			for b := a + 1; b < len(p.Kids); b++ {
				if !slices.ContainsFunc(p.Kids[a+1:b], func(kid api.Path) bool { return !emptyBy(kid) }) {
					cross(a, b)
				}
			}
		}
	}
	return l
}

// autoBy is the automaton of a path, however many words it has.
func autoBy(p api.Path) api.Auto {
	a := api.Auto{Words: wordsOf(p), First: sortedOnce(firstBy(p, 0)), Last: sortedOnce(lastBy(p, 0)), Empty: emptyBy(p)}
	a.Follow = make([][]int, len(a.Words))
	for _, x := range pairsBy(p, 0) {
		a.Follow[x[0]] = append(a.Follow[x[0]], x[1])
	}
	for i := range a.Follow {
		a.Follow[i] = sortedOnce(a.Follow[i])
	}
	return a
}

// sortedOnce are numbers, rising, each once.
func sortedOnce(l []int) []int {
	slices.Sort(l)
	return slices.Compact(l)
}

// autoMayBeBy tells whether an automaton may be.
func autoMayBeBy(a api.Auto) bool {
	n := len(a.Words)
	if n > 24 || len(a.Follow) != n {
		return false
	}
	for _, w := range a.Words {
		if !isWordBy(w) {
			return false
		}
	}
	for _, l := range append([][]int{a.First, a.Last}, a.Follow...) {
		for i, x := range l {
			if x < 0 || x > n-1 || i > 0 && x <= l[i-1] {
				return false
			}
		}
	}
	return true
}

// nextBy, endsBy and acceptsBy are what Next, Ends and Accepts must tell.
func nextBy(a api.Auto, from int, word string) (l []int) {
	if !autoMayBeBy(a) || from < -1 || from > len(a.Words)-1 {
		return nil
	}
	all := a.First
	if from != -1 {
		all = a.Follow[from]
	}
	for place, w := range a.Words {
		if w == word && slices.Contains(all, place) {
			l = append(l, place)
		}
	}
	return l
}

func endsBy(a api.Auto, at int) bool {
	if !autoMayBeBy(a) {
		return false
	}
	return at == -1 && a.Empty || at >= 0 && at < len(a.Words) && slices.Contains(a.Last, at)
}

func acceptsBy(a api.Auto, l []string) bool {
	type spot struct{ place, at int }
	seen := map[spot]bool{}
	var leads func(place, at int) bool
	leads = func(place, at int) bool {
		if at == len(l) {
			return endsBy(a, place)
		}
		if seen[spot{place, at}] {
			return false // it was tried, and led nowhere
		}
		seen[spot{place, at}] = true
		return slices.ContainsFunc(nextBy(a, place, l[at]), func(next int) bool { return leads(next, at+1) })
	}
	return autoMayBeBy(a) && leads(-1, 0)
}
