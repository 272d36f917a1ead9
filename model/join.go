package model

import (
	"slices"

	"sinew/api"
	"sinew/path"
)

// choices are, of each slot, the vertices that may still stand there, rising. A list of vertices is never changed: choices that were narrowed share those that were not.
type choices [][]int

// link is an atom between two slots, and the searches along its path from the one to the other, and back.
type link struct {
	from  int
	to    int
	there *search
	back  *search
}

// join looks for the rows of a query. Each term has a slot, in which a vertex is to stand.
//
// Choices of all variables may be far more than rows, and choices that lead to no row far more than those. So a vertex is chosen at a time, and what does not agree with it is struck out ahead of the next one.
type join struct {
	slots map[api.Term]int
	// all are all slots, and vars those of Vars.
	all   []int
	vars  []int
	links []link
	// rings are atoms between a slot and itself: they bear on no other one.
	rings []link
	// first are the choices ahead of all atoms, and found the rows.
	first choices
	found [][]int
}

// newJoin is the join of a query that may be.
func newJoin(g *graph, q api.Query) *join {
	j := &join{slots: map[api.Term]int{}}
	back := g.turned()
	for _, a := range q.Atoms {
		l := link{from: j.slot(g, a.S), to: j.slot(g, a.O), there: along(g, a.Path), back: along(back, turned(a.Path))}
		if l.from == l.to {
			j.rings = append(j.rings, l)
		} else {
			j.links = append(j.links, l)
		}
	}
	for _, name := range q.Vars {
		j.vars = append(j.vars, j.slots[api.Term{Var: true, Name: name}])
	}
	return j
}

// slot is the slot of a term.
func (j *join) slot(g *graph, t api.Term) int {
	slot, ok := j.slots[t]
	if ok {
		return slot
	}
	slot = len(j.all)
	j.slots[t] = slot
	j.all = append(j.all, slot)
	vertices := g.vertex(t.Name)
	if t.Var {
		vertices = g.vertices()
	}
	j.first = append(j.first, vertices)
	return slot
}

// along is a search along a path that may be.
func along(g *graph, p api.Path) *search {
	a, _ := path.Of(p)
	return newSearch(g, a)
}

// turned is a path that leads back over turned facts.
func turned(p api.Path) api.Path {
	kids := make([]api.Path, len(p.Kids))
	for i, kid := range p.Kids {
		kids[i] = turned(kid)
	}
	if p.Kind == api.PathSeq {
		slices.Reverse(kids)
	}
	return api.Path{Kind: p.Kind, Word: p.Word, Kids: kids}
}

// loops are those of some vertices from which a search leads to themselves.
func loops(s *search, vertices []int) []int {
	var l []int
	s.each(oneByOne(vertices), func(start int) {
		if s.endsAt(vertices[start]) {
			l = append(l, vertices[start])
		}
	})
	return l
}

// rows are the rows, rising; of too many one more than there may be.
func (j *join) rows() [][]int {
	c := slices.Clone(j.first)
	// Rings are looked at one vertex at a time: the fewer are left, the better.
	j.narrow(c, j.all)
	for _, l := range j.rings {
		c[l.from] = loops(l.there, c[l.from])
	}
	j.narrow(c, j.all)
	j.fill(c, nil)
	return j.found
}

// fill finds the rows that begin so, rising, and each once: no two of them have the same vertices of Vars. It is false once there are too many.
func (j *join) fill(c choices, row []int) bool {
	if !j.some(c, j.all) {
		return true
	}
	if len(row) == len(j.vars) {
		j.found = append(j.found, slices.Clone(row))
		return len(j.found) <= api.MaxRows
	}
	slot := j.vars[len(row)]
	for _, vertex := range c[slot] {
		if !j.fill(j.choose(c, slot, vertex), append(row, vertex)) {
			return false
		}
	}
	return true
}

// choose are the choices that are left with one vertex in a slot.
func (j *join) choose(c choices, slot, vertex int) choices {
	next := slices.Clone(c)
	next[slot] = []int{vertex}
	j.narrow(next, []int{slot})
	return next
}

// narrow strikes out the vertices that agree with none of a linked slot, beginning at slots that were changed.
func (j *join) narrow(c choices, changed []int) {
	todo := slices.Clone(changed)
	for len(todo) > 0 {
		slot := todo[0]
		todo = todo[1:]
		for _, l := range j.links {
			if l.from == slot && c.strike(l.there, slot, l.to) {
				todo = append(todo, l.to)
			}
			if l.to == slot && c.strike(l.back, slot, l.from) {
				todo = append(todo, l.from)
			}
		}
	}
}

// strike strikes out of a slot the vertices to which a search from another slot's does not lead; true, if there are such.
func (c choices) strike(s *search, from, to int) bool {
	var left []int
	s.each([][]int{c[from]}, func(int) {
		for _, vertex := range c[to] {
			if s.endsAt(vertex) {
				left = append(left, vertex)
			}
		}
	})
	if len(left) == len(c[to]) {
		return false
	}
	c[to] = left
	return true
}

// some tells whether narrowed choices have a vertex for each of some slots, with which all atoms agree.
func (j *join) some(c choices, slots []int) bool {
	for _, group := range j.groups(c, slots) {
		if !j.someOf(c, group) {
			return false
		}
	}
	return true
}

// someOf is some of the slots of a group.
func (j *join) someOf(c choices, group []int) bool {
	slot, rest := group[0], group[1:]
	for _, vertex := range c[slot] {
		if j.some(j.choose(c, slot, vertex), rest) {
			return true
		}
	}
	return false
}

// groups are those of some slots that have not just one vertex left, the ones together that links bind together: what is chosen in a group bears on no other one, and need not be tried with all that may be chosen there.
func (j *join) groups(c choices, slots []int) [][]int {
	var all [][]int
	open := slices.DeleteFunc(slices.Clone(slots), func(slot int) bool { return len(c[slot]) == 1 })
	for len(open) > 0 {
		group := []int{open[0]}
		open = open[1:]
		for i := 0; i < len(group); i++ {
			var apart []int
			for _, slot := range open {
				if j.linked(group[i], slot) {
					group = append(group, slot)
				} else {
					apart = append(apart, slot)
				}
			}
			open = apart
		}
		all = append(all, group)
	}
	return all
}

// linked tells whether there is a link between two slots.
func (j *join) linked(a, b int) bool {
	return slices.ContainsFunc(j.links, func(l link) bool { return l.from == a && l.to == b || l.from == b && l.to == a })
}
