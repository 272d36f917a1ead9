package flow

import (
	"slices"
	"strings"

	"sinew/api"
	"sinew/path"
	"sinew/query"
)

// between is an atom's path, and the numbers of the terms between which it is.
type between struct {
	s    int
	path api.Path
	o    int
}

// search is how an atom is searched: from one of its terms to the other one.
type search struct {
	from int
	to   int
	// back is whether it goes against the facts, from the object to the subject.
	back bool
	path *automaton
	// fed is whether it begins at the vertices at which another search ends; else it begins at its word, or at all vertices.
	fed bool
	// feeds are the searches that begin at the vertices at which this one ends.
	feeds []int
}

// sight is a predicate, and whether facts that have it are gone along against their way.
type sight struct {
	word string
	back bool
}

// plan is how a query is answered: all nodes make the same one of it.
type plan struct {
	// vars is how many of the terms are variables, which are the first ones; words are the others.
	vars  int
	words []string
	// keep are the variables that are asked for.
	keep     []int
	searches []search
	sights   map[sight]struct{}
	// asks are words of which must be known where they live whether they are vertices, and whole is whether all words are such.
	asks  map[string]struct{}
	whole bool
}

// newPlan is the plan of a query that may be.
func newPlan(q api.Query) *plan {
	names := query.Names(q)
	p := &plan{vars: len(names), sights: map[sight]struct{}{}, asks: map[string]struct{}{}}
	for _, name := range q.Vars {
		p.keep = append(p.keep, slices.Index(names, name))
	}
	var rest []between
	for _, x := range q.Atoms {
		rest = append(rest, between{s: p.term(x.S, names), path: x.Path, o: p.term(x.O, names)})
	}
	for len(rest) > 0 {
		at, back := p.best(rest)
		p.add(rest[at], back)
		rest = slices.Delete(rest, at, at+1)
	}
	return p
}

// term is a term's number; a word that is not there gets the next one.
func (p *plan) term(t api.Term, names []string) int {
	if t.Var {
		return slices.Index(names, t.Name)
	}
	at := slices.Index(p.words, t.Name)
	if at < 0 {
		at = len(p.words)
		p.words = append(p.words, strings.Clone(t.Name))
	}
	return p.vars + at
}

// best is the atom that is to be searched next, and whether against the facts: one that begins at the fewest vertices, as far as can be known ahead.
func (p *plan) best(rest []between) (at int, back bool) {
	least := p.rank(rest[0].s)
	for i, x := range rest {
		// Against the facts only if it is better: they must be told to where their objects live.
		if r := p.rank(x.s); r < least {
			at, back, least = i, false, r
		}
		if r := p.rank(x.o); r < least {
			at, back, least = i, true, r
		}
	}
	return at, back
}

// rank is the lesser, the fewer vertices there are at which a search from a term begins: one, those at which another one ends, or all.
func (p *plan) rank(from int) int {
	switch {
	case p.isWord(from):
		return 0
	case p.feeder(from) >= 0:
		return 1
	}
	return 2
}

// isWord tells whether a term is a word.
func (p *plan) isWord(term int) bool {
	return term >= p.vars
}

// word is the word that a term is.
func (p *plan) word(term int) string {
	return p.words[term-p.vars]
}

// feeder is the first search that ends at a term, or -1.
func (p *plan) feeder(term int) int {
	return slices.IndexFunc(p.searches, func(s search) bool { return s.to == term })
}

// add adds the search of an atom.
func (p *plan) add(x between, back bool) {
	s := search{from: x.s, to: x.o, back: back}
	way := x.path
	if back {
		s.from, s.to, way = x.o, x.s, turned(x.path)
	}
	a, _ := path.Of(way)
	s.path = newAutomaton(a)
	for _, word := range a.Words {
		p.sights[sight{word, back}] = struct{}{}
	}
	if !p.isWord(s.from) && p.feeder(s.from) >= 0 {
		s.fed = true
		feeder := &p.searches[p.feeder(s.from)]
		feeder.feeds = append(feeder.feeds, len(p.searches))
	}
	p.ask(s)
	p.searches = append(p.searches, s)
}

// ask takes note of the vertices that a search must know: where nothing at all will do, a vertex is led to that has no fact of its own. One at which another search ends is known to be a vertex.
func (p *plan) ask(s search) {
	switch {
	case s.fed || !s.path.empty():
	case p.isWord(s.from):
		p.asks[p.word(s.from)] = struct{}{}
	default:
		p.whole = true
	}
}

// sees tells whether facts of a predicate are gone along, or against.
func (p *plan) sees(word string, back bool) bool {
	_, ok := p.sights[sight{word, back}]
	return ok
}

// wants tells whether a word must be known to be a vertex.
func (p *plan) wants(word string) bool {
	_, ok := p.asks[word]
	return ok || p.whole
}

// after is the step that comes behind one.
func (p *plan) after(step int) int {
	if step == stepBegin && !p.spreads() {
		return stepSearch
	}
	return step + 1
}

// spreads tells whether facts must be told to others: not, if searches find all that they need with the facts of where they are.
func (p *plan) spreads() bool {
	against := slices.ContainsFunc(p.searches, func(s search) bool { return s.back })
	return against || p.whole || len(p.asks) > 0
}

// variables are the terms of a search that are variables.
func (p *plan) variables(s search) []int {
	var l []int
	for _, term := range []int{s.from, s.to} {
		if !p.isWord(term) {
			l = append(l, term)
		}
	}
	return l
}
