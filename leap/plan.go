package leap

import (
	"slices"

	"sinew/api"
)

// farther is how many pairs are gone over in the time in which it is found out of one value whether there is a choice with it.
const farther = 8

// step is a variable for which a value is to be chosen behind some others.
type step struct {
	number   int
	variable int
	// bound are the variables that have a value by then, and sees those of them on which it hangs which values will do.
	bound set
	sees  []int
	// again tells whether the step may come again with the same values of those that it sees.
	again bool
	// most is how many values are enough.
	most int
	// way leads from a bound variable to this one over others, where no relation has it with a bound one, and far is how many pairs are gone over at most from one variable to the next.
	way []int
	far int
	// parts are the first steps of what is left to choose and hangs on this variable. No relation has variables of two parts: each can be looked at by itself.
	parts []*step
}

// newJoin is the join of some relations.
func newJoin(vars int, rels []api.Rel) *join {
	j := &join{all: first(vars), known: map[key]int{}}
	for _, r := range rels {
		made := newRelation(r)
		j.bare = j.bare || len(made.rows) == 0
		j.ends[r.A] = append(j.ends[r.A], end{relation: made, place: 0, other: r.B})
		if r.A != r.B {
			j.ends[r.B] = append(j.ends[r.B], end{relation: made, place: 1, other: r.A})
			j.near[r.A] |= only(r.B)
			j.near[r.B] |= only(r.A)
		}
	}
	return j
}

// plan are the steps of the variables to keep, in their order: so rows rise, and each comes once.
func (j *join) plan(keep []int, most int) []*step {
	var bound set
	var l []*step
	for _, x := range keep {
		s := j.newStep(x, bound, bound, most)
		if s.way = j.way(x, bound); s.way != nil {
			s.far = farther * j.count(x)
		}
		l = append(l, s)
		bound |= only(x)
	}
	return l
}

// count is how many values a variable has ahead of all choices.
func (j *join) count(x int) int {
	n := 0
	j.leap(x, 0, func(int) bool {
		n++
		return true
	})
	return n
}

// newStep is the step of a variable, with all that hangs on it; above is what the step ahead of it sees, and chooses.
func (j *join) newStep(x int, bound, above set, most int) *step {
	sees := j.beside(j.together(x, bound)) & bound
	s := &step{number: j.steps, variable: x, bound: bound, sees: sees.list(), again: sees != above, most: most}
	j.steps++
	s.parts = j.parts(j.near[x], bound|only(x), sees|only(x))
	return s
}

// parts are the first steps of those of some variables that are not bound, and of all that hangs together with them. Of what is not kept, one value is enough.
func (j *join) parts(some, bound, above set) []*step {
	var l []*step
	for left := some &^ bound; left != 0; {
		part := j.together(left.list()[0], bound)
		l = append(l, j.newStep(j.next(part, bound), bound, above, 1))
		left &^= part
	}
	return l
}

// together are a variable and all to which relations lead from it over variables that are not bound.
func (j *join) together(x int, bound set) set {
	all := only(x)
	for {
		more := all | j.beside(all)&^bound
		if more == all {
			return all
		}
		all = more
	}
}

// beside are the variables that a relation has with one of some others.
func (j *join) beside(some set) set {
	var all set
	for _, x := range some.list() {
		all |= j.near[x]
	}
	return all
}

// next is the variable to be chosen first of a part: the more relations have it with bound ones, the fewer values it has, and the more with others, the smaller are the parts that are left.
func (j *join) next(part, bound set) int {
	return slices.MaxFunc(part.list(), func(x, y int) int {
		if n := (j.near[x] & bound).count() - (j.near[y] & bound).count(); n != 0 {
			return n
		}
		return j.near[x].count() - j.near[y].count()
	})
}

// way is a shortest way from a bound variable to another one, both with it; none, if they stand side by side, or there is none.
func (j *join) way(x int, bound set) []int {
	seen := only(x)
	ways := [][]int{{x}}
	for len(ways) > 0 {
		way := ways[0]
		ways = ways[1:]
		if bound.has(way[0]) {
			if len(way) == 2 {
				return nil
			}
			return way
		}
		for _, y := range (j.near[way[0]] &^ seen).list() {
			ways = append(ways, append([]int{y}, way...))
		}
		seen |= j.near[way[0]]
	}
	return nil
}
