package flow

import (
	"slices"
	"strconv"

	"sinew/api"
	"sinew/words"
)

// letter is a row of a note as a worker keeps it: numbers, and behind them the numbers of words.
type letter struct {
	kind int
	row  [api.MaxVars]int
}

// stepOf is the step in which workers send one another rows of a kind, or 0.
func stepOf(kind int) int {
	switch kind {
	case kindVertex, kindEdge:
		return stepSpread
	case kindWay:
		return stepSearch
	case kindPair:
		return stepShare
	}
	return 0
}

// shape is how rows of a kind are: how many numbers stand first, below which ones, and how many words behind them.
func (p *plan) shape(kind int) (below []int, count int) {
	switch kind {
	case kindVertex:
		return nil, 1
	case kindEdge:
		return nil, 3
	case kindWay:
		return []int{len(p.searches), int(only(beginning))}, 2
	case kindPair:
		return []int{len(p.searches)}, 2
	case kindRow:
		return nil, len(p.keep)
	}
	return nil, 0
}

// hasShape tells whether a row may be of a kind.
func (p *plan) hasShape(kind int, row []string) bool {
	below, count := p.shape(kind)
	if len(row) != len(below)+count {
		return false
	}
	for i, most := range below {
		if _, ok := readNumber(row[i], most); !ok {
			return false
		}
	}
	return !slices.ContainsFunc(row[len(below):], func(s string) bool { return !words.Is(s) })
}

// readNumber is the number that a text is; false, if it is none below another one.
func readNumber(s string, below int) (int, bool) {
	n, err := strconv.Atoi(s)
	// A number has but one text, not +1 or 01, too.
	return n, err == nil && 0 <= n && n < below && strconv.Itoa(n) == s
}

// letterOf is a row that may be of a kind, as the worker keeps it.
func (w *Worker) letterOf(kind int, row []string) letter {
	l := letter{kind: kind}
	below, _ := w.plan.shape(kind)
	for i, s := range row {
		if i < len(below) {
			l.row[i], _ = readNumber(s, below[i])
		} else {
			l.row[i] = w.words.number(s)
		}
	}
	return l
}

// rowOf is a letter as a row of a note.
func (w *Worker) rowOf(l letter) []string {
	below, count := w.plan.shape(l.kind)
	row := make([]string, len(below)+count)
	for i := range row {
		if i < len(below) {
			row[i] = strconv.Itoa(l.row[i])
		} else {
			row[i] = w.words.word(l.row[i])
		}
	}
	return row
}

// post lets a letter go to a node, or takes it at once, if that is the worker itself.
func (w *Worker) post(to int, l letter) {
	if to == w.id {
		w.receive(l)
		return
	}
	w.boxes[to] = append(w.boxes[to], l)
}

// mail sends what waits in boxes to the nodes that told of all that went there.
func (w *Worker) mail() {
	for to, box := range w.boxes {
		if len(box) == 0 || w.lines[to].waits {
			continue
		}
		kind := box[0].kind
		var rows [][]string
		texts := 0
		for texts < mostTexts && len(rows) < len(box) && box[len(rows)].kind == kind {
			row := w.rowOf(box[len(rows)])
			rows = append(rows, row)
			texts += len(row)
		}
		w.boxes[to] = box[len(rows):]
		if len(rows) == len(box) {
			w.boxes[to] = nil
		}
		w.send(to, kind, nil, rows)
	}
}
