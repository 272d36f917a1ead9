package leap_test

import (
	"slices"

	"sinew/api"
)

// What the chapter says, read plainly and by other means than the program's: what the tests hold it against.

// mayBeBy tells whether a join's arguments may be.
func mayBeBy(vars int, keep []int, rels []api.Rel, most int) bool {
	if vars < 1 || vars > 16 || most < 0 || most > 1048576 || len(keep) == 0 {
		return false
	}
	isVariable := func(x int) bool { return x >= 0 && x <= vars-1 }
	for i, x := range keep {
		if !isVariable(x) || slices.Contains(keep[i+1:], x) {
			return false
		}
	}
	had := map[int]bool{}
	for _, r := range rels {
		if !isVariable(r.A) || !isVariable(r.B) {
			return false
		}
		had[r.A], had[r.B] = true, true
	}
	return len(had) == vars
}

// numbersOf are all numbers of relations' pairs, each once. A choice has no others: each variable is in a relation.
func numbersOf(rels []api.Rel) (l []int) {
	for _, r := range rels {
		for _, pair := range r.Rows {
			l = append(l, pair[0], pair[1])
		}
	}
	slices.Sort(l)
	return slices.Compact(l)
}

// isChoice tells whether each relation has the pair of its variables' values.
func isChoice(values []int, rels []api.Rel) bool {
	for _, r := range rels {
		if !slices.Contains(r.Rows, [2]int{values[r.A], values[r.B]}) {
			return false
		}
	}
	return true
}

// eachOf tells all lists of so many of some numbers.
func eachOf(numbers []int, n int, tell func(l []int)) {
	l := make([]int, n)
	var choose func(at int)
	choose = func(at int) {
		if at == n {
			tell(l)
			return
		}
		for _, number := range numbers {
			l[at] = number
			choose(at + 1)
		}
	}
	choose(0)
}

// picked are the values of some variables.
func picked(values, keep []int) []int {
	var row []int
	for _, x := range keep {
		row = append(row, values[x])
	}
	return row
}

// isAhead tells whether a row is ahead of another one: by the first value in which they differ.
func isAhead(a, b []int) bool {
	for i := range a {
		if a[i] != b[i] {
			return a[i] < b[i]
		}
	}
	return false
}

// risingBy are rows, each once, each behind all that are ahead of it.
func risingBy(rows [][]int) [][]int {
	if len(rows) < 2 {
		return rows
	}
	a, b := risingBy(rows[:len(rows)/2]), risingBy(rows[len(rows)/2:])
	var l [][]int
	for len(a) > 0 && len(b) > 0 {
		switch {
		case isAhead(a[0], b[0]):
			l, a = append(l, a[0]), a[1:]
		case isAhead(b[0], a[0]):
			l, b = append(l, b[0]), b[1:]
		default:
			a = a[1:]
		}
	}
	return append(append(l, a...), b...)
}

// answered is what is answered of rows, if there may be so many.
func answered(rows [][]int, most int) ([][]int, api.Errno) {
	if rows = risingBy(rows); len(rows) > most {
		return nil, api.ErrMany
	}
	return rows, api.OK
}

// triedBy is what Join must answer: each choice of a number for each variable is tried.
func triedBy(vars int, keep []int, rels []api.Rel, most int) ([][]int, api.Errno) {
	if !mayBeBy(vars, keep, rels, most) {
		return nil, api.ErrArg
	}
	var rows [][]int
	eachOf(numbersOf(rels), vars, func(values []int) {
		if isChoice(values, rels) {
			rows = append(rows, picked(values, keep))
		}
	})
	return answered(rows, most)
}

// some is values of some of the variables, and which have one.
type some struct {
	values [16]int
	has    [16]bool
}

// with is a value more; false, if the variable has another one.
func (s some) with(x, value int) (some, bool) {
	if s.has[x] {
		return s, s.values[x] == value
	}
	s.values[x], s.has[x] = value, true
	return s, true
}

// puzzledBy is what Join must answer: pairs are put together, relation by relation, whatever comes of it. Where choices are many and relations bind them one behind the other it is sooner than to try each.
func puzzledBy(vars int, keep []int, rels []api.Rel, most int) ([][]int, api.Errno) {
	if !mayBeBy(vars, keep, rels, most) {
		return nil, api.ErrArg
	}
	all := map[some]bool{{}: true}
	for _, r := range rels {
		next := map[some]bool{}
		for s := range all {
			for _, pair := range r.Rows {
				if a, ok := s.with(r.A, pair[0]); ok {
					if b, ok := a.with(r.B, pair[1]); ok {
						next[b] = true
					}
				}
			}
		}
		all = next
	}
	var rows [][]int
	for s := range all {
		rows = append(rows, picked(s.values[:], keep))
	}
	return answered(rows, most)
}
