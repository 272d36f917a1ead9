package commit

import (
	"slices"
	"strconv"
	"strings"

	"sinew/api"
	"sinew/check"
	"sinew/store"
)

// readAll lets whoever begins read its journal, each note in the way of its kind; false, if one of them is none of such a journal.
func readAll[T any](who T, journal []api.Note, ways map[int]func(T, api.Note) bool) bool {
	return !slices.ContainsFunc(journal, func(n api.Note) bool {
		read, ok := ways[n.Kind]
		return !ok || !read(who, n)
	})
}

// sealed is a note with a sum of all that it says behind its numbers, by which it is none any more once a piece of it is another one, though that may be, too.
func sealed(kind int, rows [][]string, nums ...int) api.Note {
	return api.Note{Kind: kind, Nums: append(slices.Clone(nums), sumOf(kind, rows, nums)), Rows: rows}
}

// isSealed tells whether a note has so many numbers, no texts but those of its rows, and the sum of them all.
func isSealed(n api.Note, nums int) bool {
	return len(n.Nums) == nums+1 && len(n.Texts) == 0 && n.Nums[nums] == sumOf(n.Kind, n.Rows, n.Nums[:nums])
}

// sumOf is a sum of all that a note says.
func sumOf(kind int, rows [][]string, nums []int) int {
	var b strings.Builder
	b.WriteString(strconv.Itoa(kind))
	for _, n := range nums {
		b.WriteString(" " + strconv.Itoa(n))
	}
	for _, row := range rows {
		b.WriteString(" " + strings.Join(row, " "))
	}
	return check.Sum(b.String())
}

// numsOf are so many numbers of a note that has them alone; false, if it is none.
func numsOf(n api.Note, count int) ([]int, bool) {
	if len(n.Rows) > 0 || !isSealed(n, count) {
		return nil, false
	}
	return n.Nums[:count], true
}

// howOf are the number of a batch and how it ended, as a note says; false, if it is none.
func howOf(n api.Note) (number, how int, ok bool) {
	nums, ok := numsOf(n, 2)
	if !ok || nums[0] < 1 || nums[1] < lost || nums[1] >= open {
		return 0, 0, false
	}
	return nums[0], nums[1], true
}

// half is how many bits of a client or its number one number of a note has: it has no room for all of them.
const half = 32

// idNums are the numbers that a note has of an id, which may be any.
func idNums(id api.Id) []int {
	var l []int
	for _, n := range []int{id.Client, id.Seq} {
		l = append(l, int(uint64(n)>>half), int(uint64(n)&(1<<half-1)))
	}
	return l
}

// idOf is the id of such numbers.
func idOf(l []int) api.Id {
	whole := func(high, low int) int { return int(uint64(high)<<half | uint64(low)) }
	return api.Id{Client: whole(l[0], l[1]), Seq: whole(l[2], l[3])}
}

// seat is which worker one is, of how many.
type seat struct {
	worker  int
	workers int
}

// homes tells whether the subjects of all changes live with the worker.
func (s seat) homes(l []api.Change) bool {
	return !slices.ContainsFunc(l, func(c api.Change) bool {
		home, e := check.Home(c.T.S, s.workers)
		return e != api.OK || home+1 != s.worker
	})
}

// mayBe tells whether there is such a worker.
func (s seat) mayBe() bool {
	return 1 <= s.worker && s.worker <= s.workers && s.workers <= api.MaxWorkers
}

// asked is a worker's part of a batch.
type asked struct {
	number int
	seat
	changes []api.Change
}

// The first text of a change's row.
const (
	comes = "+"
	goes  = "-"
)

// note says it, as a note of some kind.
func (a asked) note(kind int) api.Note {
	var rows [][]string
	for _, c := range a.changes {
		sign := comes
		if c.Gone {
			sign = goes
		}
		rows = append(rows, []string{sign, c.T.S, c.T.P, c.T.O})
	}
	return sealed(kind, rows, a.number, a.worker, a.workers)
}

// askedOf is what such a note says; false, if it is none.
func askedOf(n api.Note) (asked, bool) {
	changes, ok := changesOf(n.Rows)
	if !ok || !isBatch(changes) || !isSealed(n, 3) {
		return asked{}, false
	}
	a := asked{n.Nums[0], seat{n.Nums[1], n.Nums[2]}, changes}
	return a, a.mayBe() && a.homes(changes)
}

// changesOf are the changes of rows, in memory of their own; false, if some row is none.
func changesOf(rows [][]string) ([]api.Change, bool) {
	if len(rows) > api.MaxChanges {
		return nil, false
	}
	var l []api.Change
	for _, row := range rows {
		if len(row) != 4 || row[0] != comes && row[0] != goes {
			return nil, false
		}
		l = append(l, api.Change{Gone: row[0] == goes, T: cloned(api.Triple{S: row[1], P: row[2], O: row[3]})})
	}
	return l, true
}

// isBatch tells whether layer 7 takes changes, whatever facts there are: a store without any has room for all of a batch.
func isBatch(l []api.Change) bool {
	return store.New().Room(l)
}

// cloned is a triple of words that are no pieces of a longer text, which is not to be kept for their sake.
func cloned(t api.Triple) api.Triple {
	return api.Triple{S: strings.Clone(t.S), P: strings.Clone(t.P), O: strings.Clone(t.O)}
}
