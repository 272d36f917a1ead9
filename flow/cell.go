package flow

import (
	"sinew/api"
	"sinew/leap"
	"sinew/share"
)

// count tells the head how many pairs were found of each search, and forgets how they were.
func (w *Worker) count() {
	var sizes []int
	for _, l := range w.hunt.found {
		sizes = append(sizes, min(len(l), mostSize))
	}
	w.hunt = hunt{found: w.hunt.found}
	w.send(head, kindSize, sizes, nil)
}

// share sends each pair to the cells that join it.
func (w *Worker) share(shares []int) {
	for i, s := range w.plan.searches {
		vars := w.plan.variables(s)
		for _, t := range w.hunt.found[i] {
			cells, _ := share.Route(shares, vars, w.values(s, t))
			for _, cell := range cells {
				w.post(workerOf(cell), letter{kindPair, [api.MaxVars]int{i, t.from, t.to}})
			}
		}
	}
	w.hunt = hunt{}
}

// values are the words of a pair that variables have.
func (w *Worker) values(s search, t trip) []string {
	var l []string
	if !w.plan.isWord(s.from) {
		l = append(l, w.words.word(t.from))
	}
	if !w.plan.isWord(s.to) {
		l = append(l, w.words.word(t.to))
	}
	return l
}

// workerOf is the worker that joins a cell.
func workerOf(cell int) int {
	return cell + 1
}

// join joins the pairs of the worker's cell, and tells the head the rows.
func (w *Worker) join() {
	var rels []api.Rel
	for i, s := range w.plan.searches {
		// A word is a variable, too, here: all pairs have its one value.
		rels = append(rels, api.Rel{A: s.from, B: s.to, Rows: w.pairs[i]})
	}
	rows, e := leap.Join(w.plan.vars+len(w.plan.words), w.plan.keep, rels, api.MaxRows)
	w.pairs = nil
	if e != api.OK {
		w.send(head, kindMany, []int{api.MaxRows}, nil)
		return
	}
	for _, row := range rows {
		l := letter{kind: kindRow}
		copy(l.row[:], row)
		w.post(head, l)
	}
}
