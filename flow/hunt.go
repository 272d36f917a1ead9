package flow

import "sinew/api"

// trip is where a search began, and where it came from there.
type trip struct {
	from int
	to   int
}

// task is a search that came somewhere at some places, and has not gone on.
type task struct {
	search int
	trip   trip
	at     places
}

// side is a vertex, and whether facts are gone along against their way.
type side struct {
	vertex int
	back   bool
}

// edge is a fact that is gone along: its predicate, and where it leads.
type edge struct {
	word int
	to   int
}

// hunt is what a worker's searches go by, and how far they came. All words are numbers.
type hunt struct {
	// known are vertices that live with the worker.
	known map[int]struct{}
	edges map[side][]edge
	// having are, of each search, the places that have a predicate.
	having []map[int]places
	// came are, of each search, the places at which it came somewhere, also where others go on.
	came []map[trip]places
	todo []task
	// found are, of each search, the pairs whose second vertices live with the worker.
	found [][]trip
}

// newHunt is one that goes by no facts as yet.
func newHunt(p *plan, words *lexicon) hunt {
	h := hunt{known: map[int]struct{}{}, edges: map[side][]edge{}, found: make([][]trip, len(p.searches))}
	for _, s := range p.searches {
		having := map[int]places{}
		for place, word := range s.path.words {
			having[words.number(word)] |= only(place)
		}
		h.having = append(h.having, having)
		h.came = append(h.came, map[trip]places{})
	}
	return h
}

// know takes note of a vertex.
func (h *hunt) know(vertex int) {
	h.known[vertex] = struct{}{}
}

// add takes note of a fact at a vertex, and so of the vertex.
func (h *hunt) add(at side, e edge) {
	h.know(at.vertex)
	h.edges[at] = append(h.edges[at], e)
}

// read takes note of the worker's facts, as far as searches go along them.
func (w *Worker) read(facts []api.Triple) {
	for _, f := range facts {
		s := w.words.number(f.S)
		w.hunt.know(s)
		if w.plan.sees(f.P, false) {
			w.hunt.add(side{s, false}, edge{w.words.number(f.P), w.words.number(f.O)})
		}
	}
}

// spread tells where objects live what is asked for there.
func (w *Worker) spread() {
	told := map[int]struct{}{}
	for _, f := range w.facts {
		if w.plan.sees(f.P, true) {
			p, o, s := w.words.number(f.P), w.words.number(f.O), w.words.number(f.S)
			w.post(w.words.homes[o], letter{kindEdge, [api.MaxVars]int{p, o, s}})
		}
		if w.plan.wants(f.O) {
			o := w.words.number(f.O)
			if _, ok := told[o]; !ok {
				told[o] = struct{}{}
				w.post(w.words.homes[o], letter{kindVertex, [api.MaxVars]int{o}})
			}
		}
	}
	w.facts = nil
}

// search begins those searches that no other one feeds.
func (w *Worker) search() {
	for i, s := range w.plan.searches {
		switch {
		case s.fed:
		case w.plan.isWord(s.from):
			w.start(i, w.words.number(w.plan.word(s.from)))
		default:
			// By their numbers, not by the map's order, on which the notes would hang.
			for vertex := range w.words.homes {
				w.start(i, vertex)
			}
		}
	}
}

// start begins a search at a word, if it is a vertex that lives with the worker.
func (w *Worker) start(search, vertex int) {
	if _, ok := w.hunt.known[vertex]; ok && w.words.homes[vertex] == w.id {
		w.come(search, trip{vertex, vertex}, only(beginning))
	}
}

// come lets a search come somewhere at some places. With whomever the vertex lives goes on from there.
func (w *Worker) come(search int, t trip, at places) {
	came := w.hunt.came[search]
	before := came[t]
	at &^= before
	if at == 0 {
		return
	}
	came[t] = before | at
	if home := w.words.homes[t.to]; home != w.id {
		w.post(home, letter{kindWay, [api.MaxVars]int{search, int(at), t.from, t.to}})
		return
	}
	w.hunt.todo = append(w.hunt.todo, task{search, t, at})
	path := w.plan.searches[search].path
	if path.ends(at) && !path.ends(before) {
		w.find(search, t)
	}
}

// find takes note of a pair, if it may be one of the atom's terms, and begins the searches that it feeds.
func (w *Worker) find(search int, t trip) {
	s := w.plan.searches[search]
	if s.from == s.to && t.from != t.to {
		return
	}
	if w.plan.isWord(s.to) && w.plan.word(s.to) != w.words.word(t.to) {
		return
	}
	w.hunt.found[search] = append(w.hunt.found[search], t)
	for _, next := range s.feeds {
		w.come(next, trip{t.to, t.to}, only(beginning))
	}
}

// goOn goes on wherever searches came, till nothing is left to do here.
func (w *Worker) goOn() {
	for len(w.hunt.todo) > 0 {
		last := len(w.hunt.todo) - 1
		t := w.hunt.todo[last]
		w.hunt.todo = w.hunt.todo[:last]
		s := w.plan.searches[t.search]
		may := s.path.next(t.at)
		for _, e := range w.hunt.edges[side{t.trip.to, s.back}] {
			w.come(t.search, trip{t.trip.from, e.to}, may&w.hunt.having[t.search][e.word])
		}
	}
}
