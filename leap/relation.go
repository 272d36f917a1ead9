package leap

import (
	"cmp"
	"slices"

	"sinew/api"
	"sinew/perm"
)

// relation is pairs, as rows of which the third number is always 0.
type relation struct {
	rows [][3]int
	// sorted are the rows by the first variable's values, and by the second one's: each is made when it is first asked for.
	sorted [2]*perm.Index
}

// newRelation is a relation of pairs. Where both variables are one, only a pair of like values can be chosen.
func newRelation(r api.Rel) *relation {
	l := make([][3]int, 0, len(r.Rows))
	for _, pair := range r.Rows {
		if r.A != r.B || pair[0] == pair[1] {
			l = append(l, [3]int{pair[0], pair[1], 0})
		}
	}
	return &relation{rows: l}
}

// by is the relation sorted by the variable at a place.
func (r *relation) by(place int) *perm.Index {
	if r.sorted[place] == nil {
		r.sorted[place], _ = perm.New(r.rows, [3]int{place, 1 - place, 2})
	}
	return r.sorted[place]
}

// end is where a relation has a variable: at a place, and another variable at the other place.
type end struct {
	relation *relation
	place    int
	other    int
}

// walk stands at the first value that a relation has for the variable of its end.
func (e end) walk() *perm.Walk {
	w := e.relation.by(e.place).Walk()
	w.Open()
	return w
}

// under is as walk, of those values that the relation has with one of the other variable: one that was chosen, and so is there.
func (e end) under(value int) *perm.Walk {
	w := e.relation.by(1 - e.place).Walk()
	w.Open()
	w.Seek(value)
	w.Open()
	return w
}

// walks are those of all relations that have a variable, with the values of bound ones as they were chosen.
func (j *join) walks(x int, bound set) []*perm.Walk {
	l := make([]*perm.Walk, len(j.ends[x]))
	for i, e := range j.ends[x] {
		if bound.has(e.other) {
			l[i] = e.under(j.chosen[e.other])
		} else {
			l[i] = e.walk()
		}
	}
	return l
}

// leap tells the values of a variable that all relations have that have it, rising, as long as tell is true.
//
// From the least of the walks on, each leaps to where the greatest stands, and is then the greatest itself: when the least stands there already, all do.
func (j *join) leap(x int, bound set, tell func(value int) bool) {
	walks := j.walks(x, bound)
	slices.SortFunc(walks, func(a, b *perm.Walk) int {
		m, _ := a.Key()
		n, _ := b.Key()
		return cmp.Compare(m, n)
	})
	greatest, ok := walks[len(walks)-1].Key()
	for i := 0; ok; i = (i + 1) % len(walks) {
		w := walks[i]
		if least, _ := w.Key(); least < greatest {
			w.Seek(greatest)
		} else if tell(least) {
			w.Next()
		} else {
			return
		}
		greatest, ok = w.Key()
	}
}
