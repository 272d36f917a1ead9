package leap

import "slices"

// mostKnown is how many numbers of lists are kept at most ahead of beginning anew.
const mostKnown = 1 << 18

// key is a step, and the values of the variables that it sees.
type key struct {
	step   int
	values [mostVars]int
}

// join looks for the rows.
//
// A value is chosen for one variable behind the other, those to keep ahead. Choices may be far more than rows, and beginnings that lead to none far more than those: so a value is taken just if there is a choice with it. What that hangs on is often less than all that was chosen ahead, and is looked at but once.
type join struct {
	all set
	// bare tells whether a relation has no pair that can be chosen.
	bare bool
	// ends are, of each variable, where relations have it, and near the other variables that these have.
	ends [mostVars][]end
	near [mostVars]set
	// steps is how many there are.
	steps  int
	chosen [mostVars]int
	// known are the places in lists of values that were found, and size is how many numbers these are.
	known map[key]int
	lists [][]int
	size  int
	found [][]int
}

// rows are the rows, rising; of too many one more than there may be.
func (j *join) rows(keep []int, most int) [][]int {
	if !j.bare && j.fit(j.parts(j.all, 0, 0)) {
		j.fill(j.plan(keep, most+1), nil, most)
	}
	return j.found
}

// fill finds the rows that begin so, rising. It is false once there are too many.
func (j *join) fill(steps []*step, row []int, most int) bool {
	if len(steps) == 0 {
		j.found = append(j.found, slices.Clone(row))
		return len(j.found) <= most
	}
	for _, value := range j.values(steps[0]) {
		j.chosen[steps[0].variable] = value
		if !j.fill(steps[1:], append(row, value), most) {
			return false
		}
	}
	return true
}

// fit tells whether there is a choice for each of some parts.
func (j *join) fit(parts []*step) bool {
	for _, s := range parts {
		if len(j.values(s)) == 0 {
			return false
		}
	}
	return true
}

// values are the first values of a step's variable with which there is a choice for all that hangs on it, rising.
func (j *join) values(s *step) []int {
	if !s.again {
		return j.look(s)
	}
	k := key{step: s.number}
	for _, x := range s.sees {
		k.values[x] = j.chosen[x]
	}
	if at, ok := j.known[k]; ok {
		return j.lists[at]
	}
	l := j.look(s)
	j.remember(k, l)
	return l
}

// remember keeps values that were found, so that they need not be looked for again.
func (j *join) remember(k key, l []int) {
	if j.size > mostKnown {
		clear(j.known)
		j.lists, j.size = nil, 0
	}
	j.known[k] = len(j.lists)
	j.lists = append(j.lists, l)
	j.size += 1 + len(l)
}

// look looks for a step's values.
func (j *join) look(s *step) []int {
	var l []int
	j.offer(s, func(value int) bool {
		j.chosen[s.variable] = value
		if j.fit(s.parts) {
			l = append(l, value)
		}
		return len(l) < s.most
	})
	return l
}

// offer tells values that may do for a step, rising, as long as tell is true.
func (j *join) offer(s *step, tell func(value int) bool) {
	l, ok := j.reach(s)
	if !ok {
		j.leap(s.variable, s.bound, tell)
		return
	}
	for _, value := range l {
		if !tell(value) {
			return
		}
	}
}

// reach are the values to which the way to a step's variable leads, rising; false, if there is no way, or to go it would take longer than to try all values.
func (j *join) reach(s *step) ([]int, bool) {
	if s.way == nil {
		return nil, false
	}
	at := []int{j.chosen[s.way[0]]}
	for i, to := range s.way[1:] {
		var l []int
		for _, value := range at {
			j.chosen[s.way[i]] = value
			j.leap(to, only(s.way[i]), func(value int) bool {
				l = append(l, value)
				return len(l) <= s.far
			})
			if len(l) > s.far {
				return nil, false
			}
		}
		slices.Sort(l)
		at = slices.Compact(l)
	}
	return at, true
}
