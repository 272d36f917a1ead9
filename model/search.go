package model

import (
	"math/bits"
	"slices"

	"sinew/api"
)

// places is some of an automaton's places, a bit for each.
type places uint32

// beginning stands for the place ahead of all words.
const beginning = api.MaxPlaces

// only is one place.
func only(place int) places {
	return 1 << place
}

// placesOf are the places of a list.
func placesOf(l []int) places {
	var all places
	for _, place := range l {
		all |= only(place)
	}
	return all
}

// step is a fact that leads from a vertex to another one, and the places of the path that have its predicate.
type step struct {
	to int
	at places
}

// search goes from vertices along a path, as far as facts lead.
type search struct {
	// behind are, of each place, those that may come right behind it.
	behind [beginning + 1]places
	last   places
	// steps are, of each vertex, those facts whose predicate the path has.
	steps [][]step
	// came are, of each vertex, the places at which the search came to it, and fresh those of them from which it has not gone on yet.
	came  []places
	fresh []places
	// seen are the vertices to which the search came, and todo those of them that have fresh places.
	seen []int
	todo []int
}

// newSearch is a search along the path of an automaton.
func newSearch(g *graph, a api.Auto) *search {
	n := len(g.names)
	s := &search{last: placesOf(a.Last), steps: make([][]step, n), came: make([]places, n), fresh: make([]places, n)}
	s.behind[beginning] = placesOf(a.First)
	if a.Empty {
		s.last |= only(beginning)
	}
	having := map[string]places{}
	for place, word := range a.Words {
		s.behind[place] = placesOf(a.Follow[place])
		having[word] |= only(place)
	}
	for _, e := range g.edges {
		if at := having[e.word]; at != 0 {
			s.steps[e.from] = append(s.steps[e.from], step{to: e.to, at: at})
		}
	}
	return s
}

// each searches from some lists of vertices, one list behind the other; what a search found stands till the next one begins.
func (s *search) each(starts [][]int, found func(start int)) {
anew:
	for i, start := range starts {
		s.begin(start)
		for {
			vertex, ok := s.take()
			if !ok {
				found(i)
				continue anew
			}
			s.goOn(vertex)
		}
	}
}

// oneByOne are lists of one vertex each.
func oneByOne(vertices []int) [][]int {
	l := make([][]int, len(vertices))
	for i := range vertices {
		l[i] = vertices[i : i+1]
	}
	return l
}

// begin forgets what was found, and comes to some vertices ahead of all words.
func (s *search) begin(start []int) {
	for _, vertex := range s.seen {
		s.came[vertex] = 0
	}
	s.seen = s.seen[:0]
	for _, vertex := range start {
		s.come(vertex, only(beginning))
	}
}

// come comes to a vertex at some places.
func (s *search) come(vertex int, at places) {
	at &^= s.came[vertex]
	if at == 0 {
		return
	}
	if s.came[vertex] == 0 {
		s.seen = append(s.seen, vertex)
	}
	if s.fresh[vertex] == 0 {
		s.todo = append(s.todo, vertex)
	}
	s.came[vertex] |= at
	s.fresh[vertex] |= at
}

// take is a vertex with fresh places; false, if there is none.
func (s *search) take() (int, bool) {
	last := len(s.todo) - 1
	if last < 0 {
		return 0, false
	}
	vertex := s.todo[last]
	s.todo = s.todo[:last]
	return vertex, true
}

// goOn goes on from the fresh places of a vertex.
func (s *search) goOn(vertex int) {
	var may places
	for rest := s.fresh[vertex]; rest != 0; rest &= rest - 1 {
		may |= s.behind[bits.TrailingZeros32(uint32(rest))]
	}
	s.fresh[vertex] = 0
	for _, next := range s.steps[vertex] {
		s.come(next.to, may&next.at)
	}
}

// endsAt tells whether the path may end at a vertex.
func (s *search) endsAt(vertex int) bool {
	return s.came[vertex]&s.last != 0
}

// ends are all vertices at which the path may end, rising.
func (s *search) ends() []int {
	var l []int
	for _, vertex := range s.seen {
		if s.endsAt(vertex) {
			l = append(l, vertex)
		}
	}
	slices.Sort(l)
	return l
}
